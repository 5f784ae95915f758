package mark_test

import (
	"math"
	"slices"
	"testing"

	"gleaner/api"
	"gleaner/heap"
)

// P17.2

// With nothing marked there is nothing to do: no handles, no young objects, or such as lead to no old ones.
func TestNothingToDo(t *testing.T) {
	empty := blank(small(4))
	young := blank(small(4))
	young.be(0, api.Eden, api.Survivor, api.Old)
	young.put(0, 10, 9, 0, lead(0), lead(64))
	young.put(64, 10, 9, 0, lead(0), lead(64))
	young.put(128, 10, 9, lead(0), lead(128))
	young.handle(0, 64)
	for _, m := range []*model{empty, young} {
		for _, stack := range []int{0, 1, 16} {
			x := newWatch(t, m.withStack(stack), 3)
			x.begin(t)
			for worker := range 3 {
				if x.step(t, worker) {
					t.Errorf("the worker %d has something to do", worker)
				}
			}
			x.finish(t)
			x.log(t)
			if x.step(t, 0) {
				t.Error("no reference was logged")
			}
			x.clean(t)
		}
	}
}

// chain is an old region of so many objects of two words, each of which leads to the next one above, or below; a handle leads to the first.
func chain(n, stack int, up bool) *model {
	m := blank(small(2 + n*2/64))
	m.c.Stack = stack
	for k := range n {
		at := 2 * k
		m.be(at/64, api.Old)
		switch {
		case up && k < n-1:
			m.put(at, 2, 1, lead(at+2))
		case !up && k > 0:
			m.put(at, 2, 1, lead(at-2))
		default:
			m.put(at, 2, 1)
		}
	}
	if up {
		return m.handle(0)
	}
	return m.handle(2*n - 2)
}

// count does steps of one worker till there is nothing to do: how many words each true one looked at.
func (x *watch) count(t *testing.T) []int {
	t.Helper()
	var looks []int
	for {
		ahead := x.h.Arena.Accesses()
		if !x.step(t, 0) {
			return looks
		}
		looks = append(looks, x.h.Arena.Accesses()-ahead)
	}
}

// How many words each step looks at, written out: a header, and each reference; of a reference that waits none; behind an overflow the headers and references of all that are marked.
func TestWhatEachStepLooksAt(t *testing.T) {
	for _, k := range []struct {
		stack int
		up    bool
		looks int // all of one word each
	}{
		// Four objects: a header and a reference each.
		{16, true, 8}, {16, false, 8}, {1, true, 8}, {1, false, 8},
		// Upward all is come to in one going through, and one more finds nothing new.
		{0, true, 16},
		// Downward each going through finds one: of 1, 2, 3 and 4 objects.
		{0, false, 20},
	} {
		x := newWatch(t, chain(4, k.stack, k.up), 1)
		x.begin(t)
		looks := x.count(t)
		if !slices.Equal(looks, slices.Repeat([]int{1}, k.looks)) {
			t.Errorf("%+v: %v", k, looks)
		}
		x.wantBound(t)
		x.log(t, lead(0), 0, lead(2))
		if l := x.count(t); !slices.Equal(l, []int{0, 0, 0}) {
			t.Errorf("%+v: behind Log: %v", k, l)
		}
		x.clean(t)
	}
	// A logged one that isn't marked yet: it is greyed, then its object is gone through.
	for _, stack := range []int{0, 16} {
		m := chain(4, stack, true)
		m.handles[0] = nil
		x := newWatch(t, m, 1)
		x.begin(t)
		x.log(t, lead(6))
		if l := x.count(t); !slices.Equal(l, []int{0, 1, 1}) {
			t.Errorf("stack %d: %v", stack, l)
		}
		x.wantBound(t)
	}
}

// What a worker does first: the references of its object, then an object of the stack, then a reference that waits; only then all is gone to anew.
func TestOrderOfSteps(t *testing.T) {
	m := blank(small(4))
	m.be(0, api.Old)
	m.put(0, 3, 2, lead(3), lead(6))
	m.put(3, 3, 2, lead(9), lead(12))
	m.put(6, 3, 0)
	m.put(9, 3, 0)
	m.put(12, 3, 0)
	m.put(15, 3, 0)
	m.handle(0)
	m.c.Stack = 1
	x := newWatch(t, m, 1)
	x.begin(t)
	x.log(t, lead(15))
	for n, marked := range [][]int{
		{0}, {0, 3}, {0, 3, 6}, // the object 0; its references: for 6 there is no room
		{0, 3, 6}, {0, 3, 6, 9}, {0, 3, 6, 9, 12}, // the object 3; for 12 there is no room
		{0, 3, 6, 9, 12},     // the object 9
		{0, 3, 6, 9, 12, 15}, // what waits is greyed
		{0, 3, 6, 9, 12, 15}, // the object 15
		// All six anew: first the object 0, and its two references.
		{0, 3, 6, 9, 12, 15}, {0, 3, 6, 9, 12, 15}, {0, 3, 6, 9, 12, 15},
	} {
		if !x.step(t, 0) {
			t.Fatalf("nothing to do behind %d steps", n)
		}
		if l := x.h.Marks.List(); !slices.Equal(l, marked) {
			t.Fatalf("behind %d steps: %v, not %v", n+1, l, marked)
		}
	}
	if n := len(x.count(t)); n != 3+4 { // 3 has two references, the other four none
		t.Errorf("%d more steps", n)
	}
	x.clean(t)
}

// Two workers of whom one has nothing to do while the other one is at the only object there is: it doesn't take that one's work.
func TestWorkersWithoutWork(t *testing.T) {
	x := newWatch(t, chain(3, 16, true), 2)
	x.begin(t)
	for n, k := range []struct {
		worker int
		did    bool
	}{
		{0, true}, {1, false}, {0, true}, // the object 0, and its reference to 2
		{1, true}, {0, false}, {1, true}, // 2, and its reference to 4
		{0, true}, {1, false}, {0, true}, // 4, and its reference, which is nil
		{0, false}, {1, false},
	} {
		if did := x.step(t, k.worker); did != k.did {
			t.Fatalf("step %d, of the worker %d: %v", n, k.worker, did)
		}
	}
	x.clean(t)
}

// web is a heap of so many old objects in several regions that lead to others by a rule, many to none, and big ones.
func (d *dice) web(stack int) *model {
	m := blank(api.Config{Shift: 6, Regions: 6 + d.below(4), CardShift: 3, Threads: 2, Roots: 8, Young: 2, Queue: 16, Stack: stack})
	for r := 0; r < len(m.states); r++ {
		switch d.below(6) {
		case 0:
			r += d.layBig(m, r) - 1
		case 1:
			m.states[r] = api.Eden
			d.layRow(m, r)
		default:
			m.states[r] = api.Old
			d.layRow(m, r)
		}
	}
	d.connect(m)
	return d.give(m)
}

// Stacks of each bound, workers of each number, in orders by a rule: what is marked is what can be come to, within the bound of steps.
func TestStacksAndWorkers(t *testing.T) {
	d := dice(17)
	overflown, most := 0, 0
	for n := range 240 {
		m := d.web(pick(&d, []int{0, 0, 1, 2, 3, 5, 16}))
		x := newWatch(t, m, 1+n%8)
		x.begin(t)
		logged := map[int]bool{}
		for range d.below(4) {
			if all := m.objects(api.Old, api.HumStart); len(all) > 0 {
				at := pick(&d, all)
				x.log(t, 0, lead(at))
				logged[at] = true
			}
		}
		for range d.below(60) {
			x.step(t, d.below(9))
		}
		if x.overflown || x.anew {
			overflown++
		}
		x.stepAll(t, &d)
		most = max(most, x.steps)
		if l, want := x.h.Marks.List(), m.comeTo(logged); !slices.Equal(l, want) {
			t.Fatalf("marked: %v, not %v", l, want)
		}
		x.want(t, "steps")
		x.finish(t)
		x.clean(t)
	}
	if overflown < 60 || most < 800 {
		t.Errorf("%d cycles were overflown, the longest one had %d steps", overflown, most)
	}
}

// comeTo are the old and big objects that handles, young objects and those at some addresses lead to, rising.
func (m *model) comeTo(more map[int]bool) []int {
	come := map[int]bool{}
	var list []int
	all := m.objects(api.Old, api.HumStart)
	to := func(w uint64) {
		if at := m.target(w); at >= 0 && !come[at] && slices.Contains(all, at) {
			come[at] = true
			list = append(list, at)
		}
	}
	for _, l := range m.handles {
		for _, w := range l {
			to(w)
		}
	}
	for _, at := range m.objects(api.Eden, api.Survivor) {
		for _, w := range m.fields(at) {
			to(w)
		}
	}
	for at := range more {
		to(lead(at))
	}
	for i := 0; i < len(list); i++ {
		for _, w := range m.fields(list[i]) {
			to(w)
		}
	}
	slices.Sort(list)
	return list
}

// The most steps: chains that each going through leads on by but one object, with what is logged, too.
func TestTheMostSteps(t *testing.T) {
	for _, n := range []int{1, 2, 3, 10, 33, 64} {
		for _, up := range []bool{false, true} {
			for _, stack := range []int{0, 1} {
				x := newWatch(t, chain(n, stack, up), 2)
				x.begin(t)
				x.log(t, make([]uint64, n)...)
				for x.step(t, 0) || x.step(t, 1) {
				}
				x.wantBound(t)
				if l := x.h.Marks.List(); len(l) != n {
					t.Errorf("%d objects, stack %d: marked: %v", n, stack, l)
				}
				x.clean(t)
			}
		}
	}
}

// An object that fills its regions, and is all references, is gone to anew as often as others are found through it.
func TestAllReferences(t *testing.T) {
	for _, stack := range []int{0, 1, 2, 100} {
		m := blank(small(6))
		m.c.Stack = stack
		m.be(0, api.Old, api.HumStart, api.HumCont, api.Old)
		m.put(64, 128, 127)
		for k := range 32 {
			m.put(2*k, 2, 1, lead(64))
			m.put(192+2*k, 2, 1, lead(2*k))
			m.words[65+4*k-k%2] = lead(192 + 2*(31-k))
		}
		m.handle(64)
		x := newWatch(t, m, 3)
		x.begin(t)
		x.stepAll(t, new(dice(stack)))
		if n := len(x.h.Marks.List()); n != 65 {
			t.Errorf("stack %d: %d are marked", stack, n)
		}
		x.clean(t)
	}
}

// Rings of objects that lead to one another, and objects that lead to themselves.
func TestRings(t *testing.T) {
	for _, stack := range []int{0, 1, 16} {
		m := blank(small(8))
		m.c.Stack = stack
		m.be(0, api.Old, api.Old, api.HumStart, api.Old, api.HumStart)
		m.put(0, 3, 2, lead(0), lead(3))
		m.put(3, 3, 2, lead(6), lead(0))
		m.put(6, 3, 2, lead(64), lead(3))
		m.put(64, 3, 2, lead(67), lead(64))
		m.put(67, 3, 2, lead(128), lead(64))
		m.put(128, 40, 2, lead(67), lead(128))
		// A ring that leads to those, and which nothing leads to.
		m.put(192, 3, 2, lead(256), lead(0))
		m.put(256, 40, 2, lead(192), lead(256))
		for begin, want := range map[int][]int{
			0:   {0, 3, 6, 64, 67, 128},
			6:   {0, 3, 6, 64, 67, 128},
			64:  {64, 67, 128},
			128: {64, 67, 128},
			192: {0, 3, 6, 64, 67, 128, 192, 256},
			256: {0, 3, 6, 64, 67, 128, 192, 256},
		} {
			for workers := range 4 {
				x := newWatch(t, m.clone().handle(begin), workers)
				x.begin(t)
				x.stepAll(t, new(dice(begin)))
				x.finish(t)
				if l := x.h.Marks.List(); !slices.Equal(l, want) {
					t.Errorf("from %d: %v, not %v", begin, l, want)
				}
				x.clean(t)
			}
		}
	}
}

// A reference is looked at when its step comes, not sooner: what is stored ahead of it counts, what is stored behind it doesn't.
func TestStoreWhileAWorkerIsAtAnObject(t *testing.T) {
	for ahead := range 8 {
		m := blank(small(4))
		m.be(0, api.Old)
		m.put(0, 6, 5)
		m.put(6, 2, 0)
		x := newWatch(t, m.handle(0), 1)
		x.begin(t)
		for range ahead {
			x.step(t, 0)
		}
		x.store(3, lead(6))
		x.count(t)
		// The header, 1, 2: the reference 3 is the fourth step's.
		if is := x.h.Marks.Has(6); is != (ahead < 4) {
			t.Errorf("a store behind %d steps: marked: %v", ahead, is)
		}
		x.clean(t)
	}
}

// Marks lead to words that aren't objects, where wrong references were logged: such a word is looked at, and nothing comes of it, or what comes of what looks like an object.
func TestStepAtWhatIsNoObject(t *testing.T) {
	for _, w := range append(letters, object(60, 50), object(64, 63), object(246, 200), object(247, 3), object(248, 3)) {
		for _, stack := range []int{0, 1, 16} {
			m := blank(small(4))
			m.c.Stack = stack
			m.be(0, api.Old, api.Old)
			m.put(0, 20, 0)
			m.put(20, 2, 1, lead(64))
			m.put(64, 2, 1, lead(20))
			m.words[9], m.words[10], m.words[11] = w, lead(20), lead(64)
			x := newWatch(t, m, 2)
			x.begin(t)
			x.log(t, lead(9))
			x.stepAll(t, new(dice(stack)))
			x.clean(t)
		}
	}
	// At the arena's end: an object that ends there, and what would reach behind it.
	for size := 1; size < 12; size++ {
		m := blank(small(2))
		m.be(0, api.Old, api.Old)
		m.put(0, 2, 0)
		m.put(64, 64, 0)
		m.words[120] = object(size, size-1)
		x := newWatch(t, m, 1)
		x.begin(t)
		x.log(t, lead(120))
		want := 2 // it is greyed, and its header is looked at
		if size <= 8 {
			want += size - 1
		}
		if looks := x.count(t); len(looks) != want {
			t.Errorf("size %d: %v", size, looks)
		}
	}
}

// Every reference of a heap, right or wrong, is logged; also such as are no word's.
func TestLogOfAnything(t *testing.T) {
	for _, stack := range []int{0, 1, 16, 65536} {
		m := stage().strew().withStack(stack)
		x := newWatch(t, m, 3)
		x.begin(t)
		x.log(t, leads(m)...)
		x.stepAll(t, new(dice(stack)))
		if x.h.Marks.Has(52) || !x.h.Marks.Has(41) || !x.h.Marks.Has(42) {
			t.Error("marked")
		}
		x.log(t, leads(m)...)
		x.clean(t)
		if e := x.h.Check(); e != api.OK {
			t.Error(e)
		}
	}
}

// Log of none, of nil alone, and of many; each waits for a step of its own.
func TestHowManyWait(t *testing.T) {
	for _, n := range []int{0, 1, 2, 3, 100, 5000} {
		for _, w := range []uint64{0, lead(3), lead(6), lead(64), math.MaxUint64} {
			m := blank(small(4))
			m.be(0, api.Old, api.Eden)
			m.put(0, 6, 5)
			m.put(6, 2, 0)
			m.put(64, 2, 0)
			x := newWatch(t, m, 1)
			x.begin(t)
			x.log(t, slices.Repeat([]uint64{w}, n)...)
			x.log(t)
			want := n
			if n > 0 && (w == lead(3) || w == lead(6)) {
				want++
			}
			if l := x.count(t); len(l) != want {
				t.Errorf("%d times %d: %d steps", n, w, len(l))
			}
			if n > 3 {
				continue
			}
			for k := range 4 * n {
				x.log(t, w, w)
				x.step(t, 0)
				if k%n == 0 {
					x.step(t, 0)
				}
			}
			x.clean(t)
		}
	}
}

// Cycles of two heaps have nothing to do with one another.
func TestCyclesOfTwoHeaps(t *testing.T) {
	d := dice(5)
	one, other := newWatch(t, stage().strew().withStack(1), 2), newWatch(t, stage().withStack(0), 3)
	for n := range 6 {
		one.begin(t)
		other.want(t, "another heap's Begin")
		one.log(t, lead(41))
		for range 10 * n {
			one.step(t, d.below(2))
			other.step(t, d.below(3))
		}
		if n == 2 {
			other.begin(t)
			other.log(t, lead(606))
		}
		one.clean(t)
		other.want(t, "another heap's Clean")
		if n == 4 {
			one.want(t, "one heap")
			other.abort(t)
			one.want(t, "another heap's Abort")
		}
	}
	other.begin(t)
	other.clean(t)
}

// The greatest heaps: the most regions with the greatest object, and regions of the most words.
func TestGreatestHeaps(t *testing.T) {
	c := api.Config{Shift: 6, Regions: 65536, CardShift: 3, Threads: 1, Roots: 1, Young: 1, Stack: 2}
	h, e := heap.New(c)
	if e != api.OK {
		t.Fatal(e)
	}
	for k := range 4 {
		h.Regions.Run(16384, 1048576)
		h.Arena.Store(k*1048576, object(1048576, 1048575))
	}
	h.Arena.Store(3*1048576+1048575, lead(1048576))
	h.Roots[0].Push(api.Ref(lead(3 * 1048576)))
	cycle := newCycle(t, h, 8)
	cycle.Begin()
	n := 0
	for cycle.Step(n % 8) {
		n += 8
	}
	if n != 8*2*1048576 || !slices.Equal(h.Marks.List(), []int{1048576, 3 * 1048576}) {
		t.Errorf("%d steps, marked: %v", n/8, h.Marks.List())
	}
	l, e := cycle.Clean()
	if e != api.OK || len(l) != 32768 || l[0] != 0 || l[16383] != 16383 || l[16384] != 32768 || l[32767] != 49151 {
		t.Errorf("%d are freed, %v", len(l), e)
	}
	c = api.Config{Shift: 20, Regions: 4, CardShift: 20, Threads: 1, Roots: 1, Young: 1, Stack: 1}
	h, _ = heap.New(c)
	for r := range 4 {
		h.Regions.Claim(api.Old)
		base, _ := h.Regions.Bump(r, 1048576)
		h.Arena.Store(base, object(10, 9))
		h.Arena.Store(base+10, object(524287, 524286))
		h.Arena.Store(base+524297, object(524279, 0))
		h.Arena.Store(base+9, lead((r+1)%4*1048576))
	}
	h.Arena.Store(2*1048576+8, lead(3*1048576+10))
	h.Roots[0].Push(1)
	cycle = newCycle(t, h, 1)
	cycle.Begin()
	l, e = cycle.Clean()
	if len(l) != 0 || e != api.OK {
		t.Error(l, e)
	}
	for r, want := range []int{10, 10, 10, 524297} {
		if n := cycle.Live(r); n != want {
			t.Errorf("Live(%d): %d, not %d", r, n, want)
		}
	}
	if row, e := h.Row(3); !slices.Equal(row, []int{3145728, 3145738, 3670025}) || e != api.OK {
		t.Error(row, e)
	}
	if row, e := h.Row(0); !slices.Equal(row, []int{0, 10}) || e != api.OK {
		t.Error(row, e)
	}
	if w, _ := h.Arena.Load(10); w != filler(1048566) {
		t.Error(w)
	}
}
