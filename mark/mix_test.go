package mark_test

import (
	"slices"
	"testing"

	"gleaner/api"
	"gleaner/graph"
	"gleaner/heap"
	"gleaner/mark"
	"gleaner/mutate"
)

// P17.5

// If nothing was done between Begin and Clean, just what could be come to is left: whatever steps were done, by how many workers, with which stack.
func TestWhatIsLeft(t *testing.T) {
	d := dice(175)
	left, gone := 0, 0
	for n := range 400 {
		m := d.soundHeap()
		if n%2 == 0 {
			m = d.web(d.below(4))
		}
		h := m.lay(t)
		c := newCycle(t, h, n%9)
		if e := c.Begin(); e != api.OK {
			t.Fatal(e)
		}
		for range d.below(200) {
			c.Step(d.below(9))
		}
		l, e := c.Clean()
		if e != api.OK || c.Active() || !slices.IsSorted(l) || len(slices.Compact(l)) != len(l) {
			t.Fatalf("Clean: %v, %v", l, e)
		}
		want := m.comeTo(nil)
		if all := read(h).objects(api.Old, api.HumStart); !slices.Equal(all, want) {
			t.Fatalf("%v are left, not %v", all, want)
		}
		left += len(want)
		gone += len(m.objects(api.Old, api.HumStart)) - len(want)
		if e := h.Check(); e != api.OK {
			t.Fatalf("Check: %v", e)
		}
		for _, r := range l {
			if h.Regions.State(r) != api.Free {
				t.Fatalf("the region %d is told as freed", r)
			}
		}
		for r := range m.states {
			if (m.states[r] != api.Free && h.Regions.State(r) == api.Free) != slices.Contains(l, r) {
				t.Fatalf("the region %d: freed are %v", r, l)
			}
		}
	}
	if left < 3000 || gone < 3000 {
		t.Errorf("%d objects are left, %d gone", left, gone)
	}
}

// life is a heap with its threads and a cycle, and the graph whose answers are the threads'.
type life struct {
	h       *heap.Heap
	c       *mark.Cycle
	workers int
	s       *mutate.Shared
	m       []*mutate.Mutator
	ops     []api.Op
	wants   []bool
	failed  []int
	g       *graph.Graph // nil, where objects were laid by hand
	deaf    bool         // nothing is logged
}

func newLife(t *testing.T, h *heap.Heap, workers int) *life {
	t.Helper()
	threads := h.Config.Threads
	x := &life{h: h, c: newCycle(t, h, workers), workers: workers, s: &mutate.Shared{Old: make([][]api.Ref, threads)}, ops: make([]api.Op, threads), wants: make([]bool, threads), failed: make([]int, threads)}
	for i := range threads {
		m, e := mutate.New(h, i, x.s)
		if e != api.OK {
			t.Fatalf("a mutator: %v", e)
		}
		x.m = append(x.m, m)
	}
	return x
}

func (x *life) start(i int, o api.Op) {
	x.m[i].Start(o)
	x.ops[i] = o
}

// thread does a thread's step; what is answered is what the graph answers.
func (x *life) thread(t *testing.T, i int) mutate.Result {
	t.Helper()
	r := x.m[i].Step()
	x.wants[i] = r.Want
	if r.Done && x.g != nil {
		want := x.g.Do(i, x.ops[i])
		want.Op += x.failed[i]
		if r.Answer != want {
			t.Fatalf("thread %d: %+v: %+v, not %+v", i, x.ops[i], r.Answer, want)
		}
	}
	return r
}

// worker does a step of the marking, which looks at one word at most, and changes none.
func (x *life) worker(t *testing.T, i int) bool {
	t.Helper()
	ahead := x.h.Arena.Accesses()
	did := x.c.Step(i)
	if n := x.h.Arena.Accesses() - ahead; n > 1 || !did && n > 0 {
		t.Fatalf("a step looks at %d words", n)
	}
	return did
}

// begin begins a cycle, unless a thread has words for an object that it didn't make yet: what stands there may look whole, and isn't.
func (x *life) begin(t *testing.T) bool {
	t.Helper()
	for i, m := range x.m {
		if !m.Idle() && !x.wants[i] && x.ops[i].Kind == api.OpAlloc {
			return false
		}
	}
	if e := x.c.Begin(); e != api.OK {
		t.Fatalf("Begin: %v", e)
	}
	x.s.Marking = true
	return true
}

// log hands what the threads wrote over to the cycle.
func (x *life) log(t *testing.T) int {
	t.Helper()
	n := 0
	for i, l := range x.s.Old {
		if !x.deaf {
			if e := x.c.Log(l); e != api.OK {
				t.Fatalf("Log: %v", e)
			}
		}
		n += len(l)
		x.s.Old[i] = nil
	}
	return n
}

func (x *life) clean(t *testing.T) int {
	t.Helper()
	x.log(t)
	l, e := x.c.Clean()
	if e != api.OK {
		t.Fatalf("Clean: %v", e)
	}
	x.s.Marking = false
	return len(l)
}

// rest has all threads come to rest.
func (x *life) rest(t *testing.T) {
	t.Helper()
	for i, m := range x.m {
		for !m.Idle() && !x.wants[i] {
			x.thread(t, i)
		}
	}
}

// wantSound asks of a heap at rest that it is sound, and that its shape is the graph's.
func (x *life) wantSound(t *testing.T) {
	t.Helper()
	if e := x.h.Check(); e != api.OK {
		t.Fatalf("at rest: Check: %v", e)
	}
	if s, _ := x.h.Shape(); x.g != nil && !slices.Equal(s, x.g.Shape()) {
		t.Fatalf("at rest: the shape is %v, not %v", s, x.g.Shape())
	}
}

// trio is a life of one thread, with old objects: 0 leads to 4, that to 8, that to 12, and 12 to 0; 0 and the big one at 128, which leads to 64, have handles.
func trio(t *testing.T, stack int) *life {
	t.Helper()
	c := small(5)
	c.Threads, c.Roots, c.Stack = 1, 5, stack
	m := blank(c)
	m.be(0, api.Old, api.Old, api.HumStart)
	m.put(0, 4, 2, lead(4))
	m.put(4, 4, 2, 0, lead(8))
	m.put(8, 4, 2, lead(12))
	m.put(12, 4, 2, lead(0))
	m.put(64, 4, 2)
	m.put(128, 34, 33, lead(64))
	return newLife(t, m.handle(0, 128).lay(t), 1)
}

func load(handle, field int) api.Op {
	return api.Op{Kind: api.OpLoad, A: handle, B: field}
}

func store(handle, field, from int) api.Op {
	return api.Op{Kind: api.OpStore, A: handle, B: field, C: from}
}

// play has a thread do operations and a worker mark, their steps in one order: of each bit that is set the thread's. Behind it the heap's shape is what it was ahead of Clean; if not, false.
func (x *life) play(t *testing.T, ops []api.Op, order, steps int) bool {
	t.Helper()
	x.begin(t)
	for k := range steps {
		if order>>k&1 == 0 {
			x.worker(t, 0)
			continue
		}
		if x.m[0].Idle() && len(ops) > 0 {
			x.start(0, ops[0])
			ops = ops[1:]
		}
		x.thread(t, 0)
	}
	x.rest(t)
	ahead, e := x.h.Shape()
	if e != api.OK {
		t.Fatalf("ahead of Clean: %v", e)
	}
	x.clean(t)
	behind, _ := x.h.Shape()
	return slices.Equal(ahead, behind)
}

// A reference is loaded, and written over, in each order of the thread's and a worker's steps: what it led to stays. If nothing were logged, it would get lost in some of them.
func TestEachMixOfAThreadAndAWorker(t *testing.T) {
	const steps = 14
	null, pop := api.Op{Kind: api.OpNil}, api.Op{Kind: api.OpPop}
	for k, ops := range [][]api.Op{
		{load(0, 0), null, store(0, 0, 3)},
		{load(0, 0), store(0, 0, 1), store(1, 3, 2)},
		{load(1, 0), store(1, 0, 1), load(0, 0), store(0, 0, 2)},
		{load(0, 0), load(2, 1), null, store(0, 0, 4), store(2, 1, 4)},
		{load(0, 0), store(1, 1, 2), pop, store(0, 0, 1)},
		{null, store(0, 0, 2)},
	} {
		lost := 0
		for order := range 1 << steps {
			stack := []int{0, 1, 8}[order%3]
			if x := trio(t, stack); !x.play(t, ops, order, steps) {
				t.Fatalf("operations %d in the order %b: something is lost", k, order)
			}
			if order%7 > 0 {
				continue
			}
			x := trio(t, stack)
			x.deaf = true
			if !x.play(t, ops, order, steps) {
				lost++
			}
		}
		if k < 4 && lost == 0 {
			t.Errorf("operations %d: nothing needs to be logged", k)
		}
	}
}

// handle is one of a thread's handles, more often one that isn't nil.
func (d *dice) handle(h *heap.Heap, i int) int {
	n := h.Roots[i].Len()
	if n == 0 {
		return 0
	}
	for range 4 {
		k := d.below(n)
		if r, _ := h.Roots[i].At(k); r != 0 {
			return k
		}
	}
	return d.below(n)
}

// op is an operation by a rule: most may be, and many load and store.
func (d *dice) op(h *heap.Heap, i int) api.Op {
	o := api.Op{Kind: pick(d, []api.OpKind{1, 1, 1, 1, 2, 2, 2, 2, 2, 3, 3, 3, 3, 3, 4, 5, 6, 7, 7, 7, 7, 8, 13}), V: uint64(d.below(1 << 20))}
	if o.Kind == api.OpAlloc {
		size := 1 + d.below(pick(d, []int{6, 12, h.Geom.RegionWords / 2, h.Geom.RegionWords, 2 * h.Geom.RegionWords}))
		o.A = d.below(size + 1)
		o.B = size - o.A
		return o
	}
	o.A, o.C = d.handle(h, i), d.handle(h, i)
	r, _ := h.Roots[i].At(o.A)
	x, _ := h.Object(r)
	switch {
	case o.Kind == api.OpSend:
		o.B = d.below(h.Config.Threads)
	case (o.Kind == api.OpRead || o.Kind == api.OpWrite) && x.Size > x.Ptrs+1:
		o.B = d.below(x.Size - x.Ptrs - 1)
	case x.Ptrs > 0:
		o.B = d.below(min(x.Ptrs, 4))
	}
	return o
}

// pick does a step of a thread or of a worker, or a call of the cycle.
func (x *life) pick(t *testing.T, d *dice, count map[string]int) {
	t.Helper()
	switch {
	case d.oneIn(40) && !x.c.Active():
		if x.begin(t) {
			count["begun"]++
		} else {
			count["not begun"]++
		}
	case d.oneIn(40) && x.c.Active():
		count["logged"] += x.log(t)
	case d.oneIn(300) && x.c.Active():
		count["freed"] += x.clean(t)
	case d.oneIn(2000) && x.c.Active():
		x.c.Abort()
		x.s.Marking = false
		count["aborted"]++
	case d.oneIn(3):
		if x.worker(t, d.below(x.workers+1)) {
			count["worker"]++
		}
	default:
		x.pickThread(t, d, count)
	}
}

func (x *life) pickThread(t *testing.T, d *dice, count map[string]int) {
	t.Helper()
	i := d.below(len(x.m))
	switch {
	case x.wants[i] && d.oneIn(3):
		x.m[i].Fail()
		x.wants[i] = false
		x.failed[i]++
		count["failed"]++
	case x.m[i].Idle():
		x.start(i, d.op(x.h, i))
	default:
		x.thread(t, i)
		if x.c.Active() {
			count["while marking"]++
		}
	}
}

// age makes an Eden region old, at rest.
func (x *life) age(d *dice) bool {
	eden := x.h.Regions.List(api.Eden)
	if len(eden) == 0 {
		return false
	}
	x.h.Retire()
	x.h.Regions.Turn(pick(d, eden), api.Old)
	return true
}

// move takes all objects of an Eden region into an old one that is claimed for it, at rest, and frees it: all that leads to them leads to where they are then, but what was logged.
func (x *life) move(d *dice) bool {
	h := x.h
	eden := h.Regions.List(api.Eden)
	if len(eden) == 0 {
		return false
	}
	h.Retire()
	from := pick(d, eden)
	to, e := h.Regions.Claim(api.Old)
	if e != api.OK {
		return false
	}
	base, other := from*h.Geom.RegionWords, to*h.Geom.RegionWords
	led := func(w uint64) uint64 {
		if at := int(w) - 1; w != 0 && at/h.Geom.RegionWords == from {
			return lead(at - base + other)
		}
		return w
	}
	h.Arena.Move(other, base, h.Geom.RegionWords)
	h.Regions.SetTop(to, h.Regions.Top(from)-base+other)
	h.Free(from)
	m := read(h)
	for _, at := range m.objects(api.Eden, api.Survivor, api.Old, api.HumStart) {
		for k, w := range m.fields(at) {
			h.Arena.Store(at+1+k, led(w))
		}
	}
	for i, l := range m.handles {
		for k, w := range l {
			h.Roots[i].Set(k, api.Ref(led(w)))
		}
	}
	return true
}

// Lives of many threads and workers in heaps of many kinds, by a rule: whatever steps come between, and wherever cycles begin and end, the threads are answered as by the graph, and at rest the shape is its.
func TestLivesByARule(t *testing.T) {
	d := dice(1717)
	count := map[string]int{}
	for n := range 60 {
		c := api.Config{Shift: 6 + n%2, Regions: 6 + d.below(14), CardShift: 3, Threads: 1 + n%4, Roots: 5 + d.below(12), Young: 2 + d.below(3), Queue: d.below(9), Stack: d.below(4) * d.below(4)}
		h, e := heap.New(c)
		if e != api.OK {
			t.Fatal(e)
		}
		x := newLife(t, h, 1+d.below(3))
		x.g, _ = graph.New(c.Threads, c.Roots, h.Geom.MaxSize)
		for range 40 {
			for range 20 + d.below(300) {
				x.pick(t, &d, count)
			}
			x.rest(t)
			x.wantSound(t)
			if x.c.Active() {
				count["at rest while marking"]++
			}
			if d.oneIn(2) && x.age(&d) {
				count["aged"]++
			}
			if d.oneIn(2) && x.move(&d) {
				count["moved"]++
			}
			if d.oneIn(2) && x.c.Active() {
				count["freed"] += x.clean(t)
			}
			x.wantSound(t)
		}
	}
	for what, least := range map[string]int{"begun": 1000, "not begun": 50, "logged": 300, "freed": 300, "aborted": 20, "worker": 20000, "failed": 300, "while marking": 50000, "at rest while marking": 500, "aged": 200, "moved": 200} {
		if count[what] < least {
			t.Errorf("of %s there are but %d: %v", what, count[what], count)
		}
	}
}
