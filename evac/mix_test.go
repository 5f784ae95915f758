package evac_test

import (
	"slices"
	"testing"

	"gleaner/api"
	"gleaner/graph"
	"gleaner/heap"
	"gleaner/mark"
	"gleaner/mutate"
	"gleaner/refine"
)

// life is a heap with its threads, workers that refine and a cycle that marks, and the graph whose answers are the threads'.
type life struct {
	h      *heap.Heap
	g      *graph.Graph
	s      *mutate.Shared
	m      []*mutate.Mutator
	w      []*refine.Worker
	c      *mark.Cycle
	ops    []api.Op
	wants  []bool
	failed []int
	left   []int // cards that were left over
	count  map[string]int
}

func newLife(t *testing.T, c api.Config, count map[string]int) *life {
	t.Helper()
	h, e := heap.New(c)
	if e != api.OK {
		t.Fatalf("New(%+v): %v", c, e)
	}
	x := &life{h: h, s: &mutate.Shared{Old: make([][]api.Ref, c.Threads)}, ops: make([]api.Op, c.Threads), wants: make([]bool, c.Threads), failed: make([]int, c.Threads), count: count}
	x.g, _ = graph.New(c.Threads, c.Roots, h.Geom.MaxSize)
	for i := range c.Threads {
		m, _ := mutate.New(h, i, x.s)
		x.m = append(x.m, m)
	}
	for range c.Refiners {
		w, _ := refine.New(h)
		x.w = append(x.w, w)
	}
	x.c, _ = mark.New(h, c.Markers)
	return x
}

// thread does a thread's step; what is answered is what the graph answers.
func (x *life) thread(t *testing.T, i int) {
	t.Helper()
	r := x.m[i].Step()
	x.wants[i] = r.Want
	x.left = append(x.left, r.Left...)
	if !r.Done {
		return
	}
	want := x.g.Do(i, x.ops[i])
	want.Op += x.failed[i]
	if r.Answer != want {
		t.Fatalf("thread %d: %+v: %+v, not %+v", i, x.ops[i], r.Answer, want)
	}
	x.count["answered"]++
}

// pick does a step of a thread or of a worker.
func (x *life) pick(t *testing.T, d *dice) {
	t.Helper()
	switch k := d.below(len(x.m)*2 + len(x.w) + 1); {
	case k < len(x.w):
		if x.w[k].Step() {
			x.count["refined"]++
		}
	case k == len(x.w):
		if x.c.Step(d.below(x.h.Config.Markers + 1)) {
			x.count["marked"]++
		}
	default:
		i := d.below(len(x.m))
		if x.m[i].Idle() {
			x.ops[i] = d.op(x.h, i)
			x.m[i].Start(x.ops[i])
		}
		if !x.wants[i] {
			x.thread(t, i)
		}
	}
}

// rest has all threads come to rest.
func (x *life) rest(t *testing.T) {
	t.Helper()
	for i, m := range x.m {
		for !m.Idle() && !x.wants[i] {
			x.thread(t, i)
		}
	}
}

// pause does what a pause does, at rest: workers stop; what they let go and what was left over is looked at, and all else waits still. Behind it each thread that wants tries anew, and fails, if there is no room.
func (x *life) pause(t *testing.T, d *dice) {
	t.Helper()
	for _, w := range x.w {
		if card := w.Stop(); card >= 0 {
			refine.Card(x.h, card)
			x.count["let go"]++
		}
	}
	for _, card := range x.left {
		refine.Card(x.h, card)
		x.count["left over"]++
	}
	x.left = nil
	if x.c.Active() {
		for i, l := range x.s.Old {
			x.c.Log(l)
			x.s.Old[i] = nil
		}
		if d.oneIn(2) {
			x.c.Clean()
			x.count["cleaned"]++
		}
	}
	homes, marking := read(x.h).young(), x.c.Active()
	if !marking && d.oneIn(2) {
		old := x.h.Regions.List(api.Old)
		for _, r := range old {
			if d.oneIn(3) {
				homes = append(homes, r)
				x.count["old homes"]++
			}
		}
	}
	if x.h.Queue.Waiting() > 0 {
		x.count["waiting"]++
	}
	p := pause(t, x.h, shuffled(d, homes), marking)
	p.count(x.count)
	if e := x.h.Check(); e != api.OK {
		t.Fatalf("Check: %v", e)
	}
	if s, e := x.h.Shape(); !slices.Equal(s, x.g.Shape()) || e != api.OK {
		t.Fatalf("the shape is %v, %v, not %v", s, e, x.g.Shape())
	}
	if l := x.h.Lost(x.h.Regions.List(api.Survivor)); len(l) > 0 || len(x.h.Lost(x.h.Regions.List(api.Old))) > 0 {
		t.Fatalf("lost: %v", l)
	}
	if !x.c.Active() && d.oneIn(2) {
		if e := x.c.Begin(); e != api.OK {
			t.Fatalf("Begin: %v", e)
		}
		x.count["begun"]++
	}
	x.s.Marking = x.c.Active()
	x.retry(t)
}

// retry has each thread that wants try anew.
func (x *life) retry(t *testing.T) {
	t.Helper()
	for i := range x.m {
		if !x.wants[i] {
			continue
		}
		x.thread(t, i)
		if x.wants[i] {
			x.m[i].Fail()
			x.wants[i] = false
			x.failed[i]++
			x.count["out of memory"]++
		}
	}
}

// handle is one of a thread's handles, more often one that isn't nil.
func (d *dice) handle(h *heap.Heap, i int) int {
	n := h.Roots[i].Len()
	if n == 0 {
		return 0
	}
	for range 4 {
		k := d.below(n)
		if r, _ := h.Roots[i].At(k); r != 0 {
			return k
		}
	}
	return d.below(n)
}

// op is an operation by a rule: most may be, and many load and store.
func (d *dice) op(h *heap.Heap, i int) api.Op {
	o := api.Op{Kind: pick(d, []api.OpKind{1, 1, 1, 1, 1, 2, 2, 2, 3, 3, 3, 3, 3, 3, 3, 4, 5, 6, 7, 7, 7, 7, 8, 9, 13}), V: uint64(d.below(1 << 20))}
	if o.Kind == api.OpAlloc {
		size := 1 + d.below(pick(d, []int{6, 12, 12, 12, h.Geom.RegionWords / 2, h.Geom.RegionWords, 2 * h.Geom.RegionWords}))
		o.A = d.below(size+1) * d.below(4) / 3
		o.B = size - o.A
		return o
	}
	o.A, o.C = d.handle(h, i), d.handle(h, i)
	r, _ := h.Roots[i].At(o.A)
	x, _ := h.Object(r)
	switch {
	case o.Kind == api.OpSend:
		o.B = d.below(h.Config.Threads)
	case o.Kind == api.OpEqual:
		o.B = d.handle(h, i)
	case (o.Kind == api.OpRead || o.Kind == api.OpWrite) && x.Size > x.Ptrs+1:
		o.B = d.below(x.Size - x.Ptrs - 1)
	case x.Ptrs > 0:
		o.B = d.below(min(x.Ptrs, 4))
	}
	return o
}

// Lives of heaps of many kinds, by a rule: whatever steps come between, each pause comes to what the chapter says, nothing is lost, and the threads are answered as by the graph.
func TestLivesByARule(t *testing.T) {
	d := dice(1919)
	count := map[string]int{}
	for n := range 60 {
		c := api.Config{
			Shift: 6 + n%2, Regions: 6 + d.below(30), CardShift: 3 + d.below(3), Threads: 1 + n%4, Roots: 4 + d.below(20), Refiners: d.below(4), Markers: d.below(3),
			Young: 2 + d.below(3), Tenure: d.below(4), Queue: d.below(2) * d.below(20), Stack: d.below(4) * d.below(4), Fail: []int{0, 0, 0, 1, 2, 3, 7}[d.below(7)],
		}
		x := newLife(t, c, count)
		for range 50 {
			for range 10 + d.below(200) {
				x.pick(t, &d)
			}
			x.rest(t)
			x.pause(t, &d)
		}
	}
	for what, least := range map[string]int{
		"answered": 50000, "refined": 200, "marked": 5000, "let go": 20, "left over": 200, "waiting": 1000, "cleaned": 500, "begun": 500, "old homes": 1000, "out of memory": 500,
		"moved": 3000, "failed": 1500, "full": 100, "freed": 2000, "kept": 1000, "all kept": 200, "big": 100, "claimed": 500,
	} {
		if count[what] < least {
			t.Errorf("of %s there are but %d: %v", what, count[what], count)
		}
	}
	if count["lost"] > 0 {
		t.Errorf("lost: %d", count["lost"])
	}
}
