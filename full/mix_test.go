package full_test

import (
	"slices"
	"testing"

	"gleaner/api"
	"gleaner/evac"
	"gleaner/graph"
	"gleaner/heap"
	"gleaner/mark"
	"gleaner/mutate"
	"gleaner/refine"
)

// life is a heap with its threads, workers that refine and a cycle that marks, and the graph whose answers are the threads'.
type life struct {
	h      *heap.Heap
	g      *graph.Graph
	s      *mutate.Shared
	m      []*mutate.Mutator
	w      []*refine.Worker
	c      *mark.Cycle
	ops    []api.Op
	wants  []bool
	failed []int
	left   []int // cards that were left over
	count  map[string]int
}

func newLife(t *testing.T, c api.Config, count map[string]int) *life {
	t.Helper()
	h, e := heap.New(c)
	if e != api.OK {
		t.Fatalf("New(%+v): %v", c, e)
	}
	x := &life{h: h, s: &mutate.Shared{Old: make([][]api.Ref, c.Threads)}, ops: make([]api.Op, c.Threads), wants: make([]bool, c.Threads), failed: make([]int, c.Threads), count: count}
	x.g, _ = graph.New(c.Threads, c.Roots, h.Geom.MaxSize)
	for i := range c.Threads {
		m, _ := mutate.New(h, i, x.s)
		x.m = append(x.m, m)
	}
	for range c.Refiners {
		w, _ := refine.New(h)
		x.w = append(x.w, w)
	}
	x.c, _ = mark.New(h, c.Markers)
	return x
}

// thread does a thread's step; what is answered is what the graph answers.
func (x *life) thread(t *testing.T, i int) {
	t.Helper()
	r := x.m[i].Step()
	x.wants[i] = r.Want
	x.left = append(x.left, r.Left...)
	if !r.Done {
		return
	}
	want := x.g.Do(i, x.ops[i])
	want.Op += x.failed[i]
	if r.Answer != want {
		t.Fatalf("thread %d: %+v: %+v, not %+v", i, x.ops[i], r.Answer, want)
	}
	x.count["answered"]++
}

// pick does a step of a thread or of a worker.
func (x *life) pick(t *testing.T, d *dice) {
	t.Helper()
	switch k := d.below(len(x.m)*2 + len(x.w) + 1); {
	case k < len(x.w):
		if x.w[k].Step() {
			x.count["refined"]++
		}
	case k == len(x.w):
		if x.c.Step(d.below(x.h.Config.Markers + 1)) {
			x.count["marked"]++
		}
	default:
		i := d.below(len(x.m))
		if x.m[i].Idle() {
			x.ops[i] = d.op(x.h, i)
			x.m[i].Start(x.ops[i])
		}
		if !x.wants[i] {
			x.thread(t, i)
		}
	}
}

// rest has all threads come to rest.
func (x *life) rest(t *testing.T) {
	t.Helper()
	for i, m := range x.m {
		for !m.Idle() && !x.wants[i] {
			x.thread(t, i)
		}
	}
}

// pause does a pause, at rest, of which one of two is a full one. Behind it each thread that wants tries anew, and fails, if there is no room.
func (x *life) pause(t *testing.T, d *dice) {
	t.Helper()
	if d.oneIn(2) {
		x.full(t)
	} else {
		x.evacuate(t, d)
	}
	if e := x.h.Check(); e != api.OK {
		t.Fatalf("Check: %v", e)
	}
	if s, e := x.h.Shape(); !slices.Equal(s, x.g.Shape()) || e != api.OK {
		t.Fatalf("the shape is %v, %v, not %v", s, e, x.g.Shape())
	}
	if !x.c.Active() && d.oneIn(2) {
		if e := x.c.Begin(); e != api.OK {
			t.Fatalf("Begin: %v", e)
		}
		x.count["begun"]++
	}
	x.s.Marking = x.c.Active()
	x.retry(t)
}

// full compacts the heap as it is: with cards that wait, and a marking that is given up.
func (x *life) full(t *testing.T) {
	t.Helper()
	for _, w := range x.w {
		if w.Stop() >= 0 {
			x.count["let go"]++
		}
	}
	// All that must be remembered is found anew, so that the cards that were let go or left over needn't be looked at.
	x.left = nil
	if x.c.Active() {
		x.c.Abort()
		clear(x.s.Old)
		x.count["given up"]++
	}
	if x.h.Queue.Waiting() > 0 {
		x.count["waiting"]++
	}
	for i := range x.h.Buffers {
		if x.h.Buffers[i].Left() > 0 {
			x.count["buffers"]++
		}
	}
	p := compact(t, x.h)
	p.count(x.count)
	if p.words != x.g.Words() {
		t.Fatalf("%d words, not %d", p.words, x.g.Words())
	}
}

// evacuate does what another pause does: the workers stop, all cards are looked at, a marking may end, and what is young moves, and some of what is old.
func (x *life) evacuate(t *testing.T, d *dice) {
	t.Helper()
	for _, w := range x.w {
		x.left = append(x.left, w.Stop())
	}
	refine.Drain(x.h, x.left)
	x.left = nil
	if x.c.Active() {
		for i, l := range x.s.Old {
			x.c.Log(l)
			x.s.Old[i] = nil
		}
		if d.oneIn(2) {
			x.c.Clean()
		}
	}
	homes, marking := slices.Concat(x.h.Regions.List(api.Eden), x.h.Regions.List(api.Survivor)), x.c.Active()
	for _, r := range x.h.Regions.List(api.Old) {
		if !marking && d.oneIn(5) {
			homes = append(homes, r)
		}
	}
	if _, e := evac.Pause(x.h, homes, marking); e != api.OK {
		t.Fatalf("Pause: %v", e)
	}
	x.count["evacuated"]++
}

// retry has each thread that wants try anew.
func (x *life) retry(t *testing.T) {
	t.Helper()
	for i := range x.m {
		if !x.wants[i] {
			continue
		}
		x.thread(t, i)
		if x.wants[i] {
			x.m[i].Fail()
			x.wants[i] = false
			x.failed[i]++
			x.count["out of memory"]++
		}
	}
}

// handle is one of a thread's handles, more often one that isn't nil.
func (d *dice) handle(h *heap.Heap, i int) int {
	n := h.Roots[i].Len()
	if n == 0 {
		return 0
	}
	for range 4 {
		k := d.below(n)
		if r, _ := h.Roots[i].At(k); r != 0 {
			return k
		}
	}
	return d.below(n)
}

// op is an operation by a rule: most may be, and many load and store.
func (d *dice) op(h *heap.Heap, i int) api.Op {
	o := api.Op{Kind: pick(d, []api.OpKind{1, 1, 1, 1, 1, 2, 2, 2, 3, 3, 3, 3, 3, 3, 3, 4, 5, 6, 7, 7, 7, 8, 9, 13}), V: uint64(d.below(1 << 20))}
	if o.Kind == api.OpAlloc {
		size := 1 + d.below(pick(d, []int{6, 12, 12, 12, h.Geom.RegionWords / 2, h.Geom.RegionWords, 2 * h.Geom.RegionWords}))
		o.A = d.below(size+1) * d.below(4) / 3
		o.B = size - o.A
		return o
	}
	o.A, o.C = d.handle(h, i), d.handle(h, i)
	r, _ := h.Roots[i].At(o.A)
	x, _ := h.Object(r)
	switch {
	case o.Kind == api.OpSend:
		o.B = d.below(h.Config.Threads)
	case o.Kind == api.OpEqual:
		o.B = d.handle(h, i)
	case (o.Kind == api.OpRead || o.Kind == api.OpWrite) && x.Size > x.Ptrs+1:
		o.B = d.below(x.Size - x.Ptrs - 1)
	case x.Ptrs > 0:
		o.B = d.below(min(x.Ptrs, 4))
	}
	return o
}

// P20.1 to P20.3: lives of heaps of many kinds, by a rule: whatever steps and pauses come between, each compaction comes to what the chapter says, and the threads are answered as by the graph.
func TestLivesByARule(t *testing.T) {
	d := dice(2020)
	count := map[string]int{}
	for n := range 150 {
		c := api.Config{
			Shift: 6 + n%2, Regions: 6 + d.below(30), CardShift: 3 + d.below(3), Threads: 1 + n%4, Roots: 4 + d.below(20), Refiners: d.below(4), Markers: d.below(3),
			Young: 2 + d.below(3), Tenure: d.below(4), Queue: d.below(2) * d.below(20), Stack: d.below(4) * d.below(4), Fail: []int{0, 0, 0, 1, 2, 3, 7}[d.below(7)],
		}
		x := newLife(t, c, count)
		for range 50 {
			for range 10 + d.below(200) {
				x.pick(t, &d)
			}
			x.rest(t)
			x.pause(t, &d)
		}
	}
	for what, least := range map[string]int{
		"answered": 50000, "refined": 200, "marked": 5000, "let go": 20, "waiting": 500, "buffers": 1000, "begun": 500, "given up": 200, "evacuated": 1000, "out of memory": 500,
		"compacted": 1000, "left": 10000, "moved": 3000, "up": 1000, "big": 500, "over itself": 30, "full": 50, "sparse": 500, "fine": 5,
	} {
		if count[what] < least {
			t.Errorf("of %s there are but %d: %v", what, count[what], count)
		}
	}
}
