package mutate_test

import (
	"slices"
	"testing"

	"gleaner/api"
	"gleaner/graph"
	"gleaner/heap"
	"gleaner/mutate"
	"gleaner/parse"
)

// rig is a heap with a mutator for each thread, and what these are held against: the plain model step by step, the graph answer by answer.
type rig struct {
	h      *heap.Heap
	s      *mutate.Shared
	m      []*mutate.Mutator
	p      *model
	g      *graph.Graph // nil, where objects were laid by hand
	failed []int        // of each thread, how many operations the graph did not do
}

// small is a configuration of 6 regions of 64 words, in cards of 8, and two threads with four handles each.
func small() api.Config {
	return api.Config{Shift: 6, Regions: 6, CardShift: 3, Threads: 2, Roots: 4, Young: 2, Queue: 8}
}

func newRig(t *testing.T, c api.Config) *rig {
	t.Helper()
	h, e := heap.New(c)
	if e != api.OK {
		t.Fatalf("heap.New(%+v): %v", c, e)
	}
	x := &rig{h: h, s: &mutate.Shared{Old: make([][]api.Ref, c.Threads)}, p: newModel(c), failed: make([]int, c.Threads)}
	x.g, e = graph.New(c.Threads, c.Roots, h.Geom.MaxSize)
	if e != api.OK {
		t.Fatalf("graph.New: %v", e)
	}
	for i := range c.Threads {
		m, e := mutate.New(h, i, x.s)
		if m == nil || e != api.OK {
			t.Fatalf("New of the thread %d: %v, %v", i, m, e)
		}
		x.m = append(x.m, m)
	}
	return x
}

// marking turns the marking on or off.
func (x *rig) marking(on bool) {
	x.s.Marking, x.p.marking = on, on
}

func (x *rig) start(t *testing.T, i int, o api.Op) {
	t.Helper()
	if e := x.m[i].Start(o); e != api.OK {
		t.Fatalf("thread %d: Start(%+v): %v", i, o, e)
	}
	x.p.start(i, o)
}

// step does a thread's step, and asks that it comes to what the model says, that it looked at one word at most, and that the heap is what the model is.
func (x *rig) step(t *testing.T, i int) mutate.Result {
	t.Helper()
	o := x.p.turns[i]
	ahead := x.h.Arena.Accesses()
	r := x.m[i].Step()
	if n := x.h.Arena.Accesses() - ahead; n > 1 {
		t.Fatalf("thread %d: %+v: a step looks at %d words", i, o, n)
	}
	want := x.p.step(i)
	if r.Answer != want.Answer || r.Done != want.Done || r.Busy != want.Busy || r.Want != want.Want || !slices.Equal(r.Left, want.Left) {
		t.Fatalf("thread %d: %+v: %+v, not %+v", i, o, r, want)
	}
	if r.Done {
		x.wantGraph(t, o.o, r.Answer)
	}
	x.wantSame(t)
	return r
}

// wantGraph has the graph do an operation that was answered, and asks for the same answer.
func (x *rig) wantGraph(t *testing.T, o api.Op, a api.Answer) {
	t.Helper()
	if x.g == nil {
		return
	}
	want := x.g.Do(a.Thread, o)
	want.Op += x.failed[a.Thread]
	if a != want {
		t.Fatalf("%+v: %+v; the graph: %+v", o, a, want)
	}
}

func (x *rig) fail(t *testing.T, i int) (api.Answer, api.Errno) {
	t.Helper()
	a, e := x.m[i].Fail()
	if want, w := x.p.fail(i); a != want || e != w {
		t.Fatalf("thread %d: Fail: %+v, %v, not %+v, %v", i, a, e, want, w)
	}
	if e == api.OK {
		x.failed[i]++
	}
	x.wantSame(t)
	return a, e
}

// told is what a step came to, in a letter.
func told(r mutate.Result) string {
	switch {
	case r.Want:
		return "w"
	case r.Done && r.Busy:
		return "D"
	case r.Done:
		return "d"
	case r.Busy:
		return "b"
	}
	return "-"
}

// rest does a thread's operation to its end, or till it wants: the answer, and what each step came to: b it goes on, d answered, D answered and it goes on, w it wants, - it ended, answered ahead.
func (x *rig) rest(t *testing.T, i int) (api.Answer, string) {
	t.Helper()
	var a api.Answer
	steps := ""
	for !x.m[i].Idle() {
		r := x.step(t, i)
		if r.Done {
			a = r.Answer
		}
		steps += told(r)
		if r.Want || len(steps) > 9 {
			break
		}
	}
	return a, steps
}

func (x *rig) do(t *testing.T, i int, o api.Op) (api.Answer, string) {
	t.Helper()
	x.start(t, i, o)
	return x.rest(t, i)
}

// want does an operation, and asks for the error of its answer and for its steps.
func (x *rig) want(t *testing.T, i int, o api.Op, code api.Errno, steps string) api.Answer {
	t.Helper()
	a, s := x.do(t, i, o)
	if a.Code != code || s != steps {
		t.Fatalf("thread %d: %+v: %v, steps %s; not %v, steps %s", i, o, a, s, code, steps)
	}
	return a
}

// must does operations of a thread none of which may be refused.
func (x *rig) must(t *testing.T, i int, ops ...api.Op) {
	t.Helper()
	for _, o := range ops {
		if a, s := x.do(t, i, o); a.Code != api.OK || !x.m[i].Idle() {
			t.Fatalf("thread %d: %+v: %v, steps %s", i, o, a, s)
		}
	}
}

// wantSame asks that all numbers of the heap, of the Shared and of the mutators are the model's.
func (x *rig) wantSame(t *testing.T) {
	t.Helper()
	x.wantWords(t)
	x.wantRegions(t)
	x.wantCards(t)
	p := x.p
	if x.s.Marking != p.marking || len(x.s.Old) != len(p.old) {
		t.Fatalf("Shared: %+v", x.s)
	}
	for i := range p.handles {
		if l := x.h.Roots[i].List(); !slices.Equal(l, p.handles[i]) {
			t.Fatalf("thread %d: handles %v, not %v", i, l, p.handles[i])
		}
		if l := x.s.Old[i]; !slices.Equal(l, p.old[i]) {
			t.Fatalf("thread %d: wrote over %v, not %v", i, l, p.old[i])
		}
		if first, behind := x.h.Buffers[i].Rest(); first != p.next[i] || behind != p.end[i] {
			t.Fatalf("thread %d: a buffer of %d to %d, not %d to %d", i, first, behind, p.next[i], p.end[i])
		}
		if x.m[i].Idle() == p.turns[i].on {
			t.Fatalf("thread %d: Idle %v: %+v", i, x.m[i].Idle(), p.turns[i])
		}
	}
}

func (x *rig) wantWords(t *testing.T) {
	t.Helper()
	for at, want := range x.p.words {
		if w, _ := x.h.Arena.Load(at); w != want {
			t.Fatalf("the word %d: %d, not %d", at, w, want)
		}
	}
	if x.h.Marks.Next(0) != -1 {
		t.Fatalf("the word %d is marked", x.h.Marks.Next(0))
	}
}

func (x *rig) wantRegions(t *testing.T) {
	t.Helper()
	for r, s := range x.p.states {
		if x.h.Regions.State(r) != s || x.h.Regions.Top(r) != x.p.tops[r] {
			t.Fatalf("region %d: %d, Top %d, not %d, %d", r, x.h.Regions.State(r), x.h.Regions.Top(r), s, x.p.tops[r])
		}
		if x.h.Regions.Tams(r) != r*x.p.region || len(x.h.Sets.Cards(r)) != 0 {
			t.Fatalf("region %d: Tams %d, set %v", r, x.h.Regions.Tams(r), x.h.Sets.Cards(r))
		}
	}
}

func (x *rig) wantCards(t *testing.T) {
	t.Helper()
	waits := len(x.p.common)
	for _, l := range x.p.local {
		waits += len(l)
	}
	if x.h.Queue.Len() != len(x.p.common) || x.h.Queue.Waiting() != waits {
		t.Fatalf("%d of %d cards wait in common, not %d of %d", x.h.Queue.Len(), x.h.Queue.Waiting(), len(x.p.common), waits)
	}
	for card, dirty := range x.p.dirty {
		if x.h.Cards.Is(card) != dirty {
			t.Fatalf("card %d: dirty %v", card, !dirty)
		}
		at, e := x.h.Offs.First(card)
		if want, is := x.p.begins[card]; at != want || (e == api.OK) != is {
			t.Fatalf("card %d: begins at %d, %v, not %d, %v", card, at, e, want, is)
		}
	}
}

// wantQueue takes all cards that wait, and asks that they are these.
func (x *rig) wantQueue(t *testing.T, cards ...int) {
	t.Helper()
	if l := x.h.Queue.Drain(); !slices.Equal(l, cards) {
		t.Fatalf("cards wait: %v, not %v", l, cards)
	}
	x.p.common, x.p.local = nil, make([][]int, x.p.c.Threads)
}

// wantDrained takes all cards that wait, and asks that they are the model's.
func (x *rig) wantDrained(t *testing.T) {
	t.Helper()
	x.wantQueue(t, slices.Concat(x.p.common, slices.Concat(x.p.local...))...)
}

// atRest: are all mutators idle, or do they want?
func (x *rig) atRest() bool {
	for _, w := range x.p.turns {
		if w.on && !w.wants {
			return false
		}
	}
	return true
}

// wantSound asks of a heap at rest that it is sound, and that its shape is the graph's.
func (x *rig) wantSound(t *testing.T) {
	t.Helper()
	if e := x.h.Check(); e != api.OK {
		t.Fatalf("at rest: Check: %v", e)
	}
	if x.g == nil {
		return
	}
	if s, e := x.h.Shape(); !slices.Equal(s, x.g.Shape()) || e != api.OK {
		t.Fatalf("at rest: Shape: %v, %v, not %v", s, e, x.g.Shape())
	}
}

// park does the threads' steps till the heap is at rest.
func (x *rig) park(t *testing.T) {
	t.Helper()
	for i := range x.m {
		for x.p.turns[i].on && !x.p.turns[i].wants {
			x.step(t, i)
		}
	}
	x.wantSound(t)
}

// put lays an object by hand in a region that is filled word by word: the reference to it.
func (x *rig) put(t *testing.T, r, size, ptrs int) api.Ref {
	t.Helper()
	at, e := x.h.Regions.Bump(r, size)
	if e == api.OK {
		e = parse.Make(x.h.Arena, at, size, ptrs)
	}
	if e != api.OK {
		t.Fatalf("an object of %d words in the region %d: %v", size, r, e)
	}
	return api.Ref(at) + 1
}

// putBig lays a big object by hand: the reference to it.
func (x *rig) putBig(t *testing.T, size, ptrs int) api.Ref {
	t.Helper()
	r, e := x.h.Regions.Run(x.h.Geom.Span(size), size)
	at, _ := x.h.Geom.Base(r)
	if e == api.OK {
		e = parse.Make(x.h.Arena, at, size, ptrs)
	}
	if e != api.OK {
		t.Fatalf("a big object of %d words: %v", size, e)
	}
	return api.Ref(at) + 1
}

// claim lays regions of these states by hand.
func (x *rig) claim(t *testing.T, states ...api.RegionState) {
	t.Helper()
	for _, s := range states {
		if _, e := x.h.Regions.Claim(s); e != api.OK {
			t.Fatalf("Claim(%d): %v", s, e)
		}
	}
}

// read has the model be what the heap was made by hand; no card may wait in it.
func (x *rig) read() {
	p := x.p
	for at := range p.words {
		p.words[at], _ = x.h.Arena.Load(at)
	}
	for r := range p.states {
		p.states[r], p.tops[r] = x.h.Regions.State(r), x.h.Regions.Top(r)
	}
	clear(p.begins)
	for card := range p.dirty {
		p.dirty[card] = x.h.Cards.Is(card)
		if at, e := x.h.Offs.First(card); e == api.OK {
			p.begins[card] = at
		}
	}
	for i := range p.handles {
		p.handles[i] = x.h.Roots[i].List()
		p.next[i], p.end[i] = x.h.Buffers[i].Rest()
	}
}

// scribble writes anything into all words of free regions.
func (x *rig) scribble(d *dice) {
	for r, s := range x.p.states {
		if s != api.Free {
			continue
		}
		for at := r * x.p.region; at < (r+1)*x.p.region; at++ {
			x.h.Arena.Store(at, uint64(d.below(1<<31))<<uint(d.below(40)))
		}
	}
	x.read()
}
