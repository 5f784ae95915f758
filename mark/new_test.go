package mark_test

import (
	"math"
	"slices"
	"testing"

	"gleaner/api"
	"gleaner/heap"
	"gleaner/mark"
)

// small is a configuration of regions of 64 words, in cards of 8, and two threads.
func small(regions int) api.Config {
	return api.Config{Shift: 6, Regions: regions, CardShift: 3, Threads: 2, Roots: 8, Young: 1, Queue: 64, Stack: 16}
}

// stage is a heap of each kind of region. Handles lead to 3, 200 and a young object; behind rows, in free regions and in data words stands what would be a header, or lead to old objects.
func stage() *model {
	m := blank(small(14))
	m.be(0, api.Old, api.Eden, api.Survivor, api.HumStart, api.HumCont, api.HumCont, api.Free, api.Old, api.HumStart, api.Old, api.Old, api.HumStart, api.HumStart, api.HumCont)
	m.fill(0, 3)
	m.put(3, 7, 4, lead(10), 0, lead(512), lead(3), lead(41), lead(45))
	m.put(10, 20, 3, lead(30), lead(64), lead(68))
	m.put(30, 1, 0)
	m.put(31, 2, 1, lead(33)) // lost, with what it leads to
	m.put(33, 7, 2, lead(31), lead(10), lead(40))
	m.fill(40, 1)
	m.put(41, 4, 1, lead(50)) // lost
	m.fill(45, 2)
	m.put(47, 3, 2, lead(449), lead(192)) // the Survivor's
	m.put(50, 2, 1, lead(41))             // lost
	m.words[52], m.words[53] = object(4, 3), lead(41)
	m.put(64, 4, 2, lead(128), lead(128), lead(41))
	m.put(68, 3, 1, lead(460)) // lost, but young
	m.words[71], m.words[72], m.words[90] = object(3, 2), lead(33), lead(33)
	m.buffers[1] = piece{64, 7, 128}
	m.tops[1] = 128
	m.put(128, 10, 2, lead(47), lead(704), lead(33))
	m.words[138], m.words[139] = object(2, 1), lead(41)
	m.put(192, 150, 140, lead(64), lead(192), lead(30))
	m.words[255], m.words[256], m.words[319], m.words[332], m.words[333] = lead(449), lead(128), lead(466), lead(3), lead(41)
	m.words[384], m.words[385] = object(3, 2), lead(41)
	m.put(448, 1, 0) // lost
	m.put(449, 11, 10, 0, 0, lead(192), lead(449), 0, lead(449))
	m.put(460, 6, 1, lead(466))
	m.put(466, 2, 1, lead(460))
	m.put(468, 44, 0)                         // lost
	m.put(512, 40, 39, lead(512), 0, lead(3)) // big, and come to by 3
	m.put(576, 30, 29, lead(606), lead(512))  // all of this region is lost
	m.put(606, 2, 1, lead(576))
	m.fill(608, 32)
	m.put(704, 50, 1, lead(3))    // big, the Survivor's
	m.put(768, 128, 10, lead(41)) // big, and lost
	m.handle(64, 3)
	m.handles[1] = []uint64{0, lead(449), lead(3)}
	return m.noteAll()
}

// broken is the stage with junk in the first word of each region that has a row.
func broken() *model {
	m := stage()
	for _, at := range []int{0, 64, 128, 192, 448, 512, 576, 704, 768} {
		m.words[at] = junk
	}
	return m
}

func TestStageIsSound(t *testing.T) {
	if e := stage().strew().lay(t).Check(); e != api.OK {
		t.Error(e)
	}
}

// P17.1

func TestNewOfANilHeap(t *testing.T) {
	refused, _ := heap.New(api.Config{})
	for _, h := range []*heap.Heap{nil, refused} {
		for _, workers := range append([]int{0, 1, 7, 8, 9}, far...) {
			if c, e := mark.New(h, workers); c != nil || e != api.ErrNil {
				t.Errorf("New of %d workers: %v, %v", workers, c, e)
			}
		}
	}
}

func TestNewOfTooFewOrTooMany(t *testing.T) {
	for _, m := range []*model{stage().strew(), broken().strew()} {
		h, twin := m.lay(t), m.lay(t)
		for _, workers := range none(api.MaxHelpers + 1) {
			if c, e := mark.New(h, workers); c != nil || e != api.ErrRange {
				t.Errorf("New of %d workers: %v, %v", workers, c, e)
			}
		}
		for workers := range 9 {
			newCycle(t, h, workers)
		}
		wantTwin(t, h, twin, "New")
		if h.Arena.Accesses() != twin.Arena.Accesses() {
			t.Error("New looks at words")
		}
	}
}

// Of so many workers each has steps, and there is none below the first or behind the last.
func TestWhichWorkersThereAre(t *testing.T) {
	for workers := range 9 {
		x := newWatch(t, stage(), workers)
		x.begin(t)
		x.log(t, 0, lead(3), junk, lead(31))
		for worker := range workers {
			if !x.step(t, worker) {
				t.Errorf("the worker %d of %d has nothing to do", worker, workers)
			}
		}
		for _, worker := range none(workers) {
			if x.step(t, worker) {
				t.Errorf("the worker %d of %d", worker, workers)
			}
		}
		x.want(t, "steps")
		x.finish(t)
		x.clean(t)
	}
}

func TestNilCycle(t *testing.T) {
	refused, _ := mark.New(nil, 1)
	for _, c := range []*mark.Cycle{nil, refused} {
		for range 2 {
			for _, n := range append([]int{0, 1, 2}, far...) {
				if c.Step(n) || c.Live(n) != 0 {
					t.Errorf("Step(%d): %v, Live: %d", n, c.Step(n), c.Live(n))
				}
			}
			if c.Active() || c.Begin() != api.ErrNil || c.Finish() != api.ErrNil {
				t.Error("Active, Begin or Finish")
			}
			for _, l := range [][]api.Ref{nil, {}, {1}, {0, 1, math.MaxUint64}} {
				if e := c.Log(l); e != api.ErrNil {
					t.Errorf("Log(%v): %v", l, e)
				}
			}
			if l, e := c.Clean(); len(l) != 0 || e != api.ErrNil {
				t.Errorf("Clean: %v, %v", l, e)
			}
			c.Abort()
		}
	}
}

// wantIdle asks for a cycle that isn't active: nothing may be done but Begin, and nothing is changed.
func (x *watch) wantIdle(t *testing.T) {
	t.Helper()
	if x.c.Active() {
		t.Fatal("it is active")
	}
	for worker := -1; worker < 9; worker++ {
		x.step(t, worker)
	}
	x.log(t)
	x.log(t, 0, lead(3), lead(41))
	x.finish(t)
	x.clean(t)
	x.abort(t)
	if e := x.c.Log(nil); e != api.ErrShape {
		t.Fatalf("Log: %v", e)
	}
	x.want(t, "an idle cycle")
}

// A cycle isn't active ahead of Begin, behind a Begin that was refused, behind Clean and behind Abort; and then it begins as one that never did.
func TestCallsOfAnIdleCycle(t *testing.T) {
	for _, stack := range []int{0, 1, 16} {
		for workers := range 3 {
			x := newWatch(t, stage().strew().withStack(stack), workers)
			x.wantIdle(t)
			x.store(449, junk)
			if e := x.begin(t); e != api.ErrBroken {
				t.Fatal(e)
			}
			x.wantIdle(t)
			x.store(449, object(11, 10))
			for n := range 3 {
				x.begin(t)
				x.log(t, lead(41), lead(31))
				for k := range 5 * n {
					x.step(t, k%3)
				}
				x.abort(t)
				x.wantIdle(t)
			}
			x.begin(t)
			x.clean(t)
			x.wantIdle(t)
			x.begin(t)
			x.clean(t)
		}
	}
}

// Begin of an active cycle is refused, whatever has been done and whether the heap is whole; and what is left to do stays.
func TestBeginTwice(t *testing.T) {
	for steps := range 30 {
		for _, stack := range []int{0, 1, 16} {
			x := newWatch(t, stage().strew().withStack(stack), 2)
			x.begin(t)
			x.log(t, lead(41), 0, lead(606))
			for k := range steps {
				x.step(t, k%2)
			}
			if e := x.begin(t); e != api.ErrShape {
				t.Fatal(e)
			}
			x.store(64, junk)
			if e := x.begin(t); e != api.ErrShape {
				t.Fatal(e)
			}
			x.store(64, object(4, 2))
			x.stepAll(t, new(dice(steps)))
			if e := x.begin(t); e != api.ErrShape {
				t.Fatal(e)
			}
			x.finish(t)
			if e := x.begin(t); e != api.ErrShape {
				t.Fatal(e)
			}
			x.clean(t)
		}
	}
}

// letters are words such as a row may have, and such as it may not.
var letters = []uint64{
	0, object(1, 0), object(2, 1), aged(3, 0, 7), object(4, 3), object(9, 8), object(1048576, 0), object(1048576, 1048575),
	filler(1), filler(2), filler(9), filler(1048576),
	forward(1, 0), forward(2, 64), forward(1048576, 4194303), 1, 2, 3, 4, object(2, 2), object(1048577, 0), 1<<60 + filler(1), 1<<47 + object(1, 0), junk, math.MaxUint64, 1 << 63,
}

// Each header of the stage is each of these words: Begin begins, unless a row is none; then nothing is done.
func TestBeginWhereEachHeaderIsEachWord(t *testing.T) {
	refused := map[api.RegionState]int{}
	for _, at := range []int{0, 3, 10, 50, 52, 64, 68, 71, 128, 138, 192, 256, 384, 448, 449, 468, 512, 576, 606, 608, 640, 704, 768} {
		for _, w := range letters {
			m := stage().strew()
			m.words[at] = w
			x := newWatch(t, m, 1)
			if x.begin(t) == api.ErrBroken {
				refused[m.states[at/m.region]]++
				x.wantIdle(t)
			}
		}
	}
	for _, s := range []api.RegionState{api.Eden, api.Survivor, api.Old, api.HumStart} {
		if refused[s] == 0 {
			t.Errorf("no Begin is refused by a region of the state %d", s)
		}
	}
	if refused[api.Free] != 0 || refused[api.HumCont] != 0 {
		t.Error(refused)
	}
}

// A row is none, too, where an object reaches over its end, or a big one over its regions.
func TestBeginWhereARowIsTooShort(t *testing.T) {
	m := stage().strew()
	m.tops[0]--
	x := newWatch(t, m, 1)
	if e := x.begin(t); e != api.ErrBroken {
		t.Error(e)
	}
	m = stage().strew()
	m.buffers[1].taken--
	x = newWatch(t, m, 1)
	if e := x.begin(t); e != api.ErrBroken {
		t.Error(e)
	}
	x = newWatch(t, stage().strew(), 1)
	x.both(func(h *heap.Heap) { h.Free(13) })
	if e := x.begin(t); e != api.ErrBroken {
		t.Error(e)
	}
}

// What Begin marks, written out: what the handles and the young objects lead to, in Old and HumStart regions; what was marked ahead isn't any more.
func TestWhatBeginMarks(t *testing.T) {
	for _, m := range []*model{stage(), stage().strew()} {
		x := newWatch(t, m, 1)
		x.begin(t)
		if l := x.h.Marks.List(); !slices.Equal(l, []int{3, 47, 449, 460, 704}) {
			t.Error(l)
		}
		for r, tams := range []int{52, 64, 128, 256, 256, 320, 384, 512, 552, 640, 640, 754, 832, 832} {
			if n := x.h.Regions.Tams(r); n != tams {
				t.Errorf("Tams(%d): %d, not %d", r, n, tams)
			}
		}
	}
}

// The Tams of regions that are neither Old nor HumStart stay what they are, those of others become their Tops, whatever they were.
func TestTamsOfBegin(t *testing.T) {
	for s := api.Free; s <= api.HumCont; s++ {
		for _, tams := range []int{64, 65, 70, 128} {
			m := blank(small(4))
			m.be(0, api.HumStart, s)
			m.put(0, 10, 3)
			if s == api.HumCont {
				m.put(0, 74, 3)
			} else if s != api.Free {
				m.put(64, 10, 3)
			}
			if s == api.Eden || s == api.Survivor || s == api.Old {
				m.tams[1] = tams
			}
			x := newWatch(t, m, 0)
			ahead := x.h.Regions.Tams(1)
			x.begin(t)
			want := ahead
			if s == api.Old || s == api.HumStart {
				want = 74
			}
			if n := x.h.Regions.Tams(1); n != want {
				t.Errorf("state %d: Tams %d, not %d", s, n, want)
			}
		}
	}
}

// leads are words that lead to each word of a heap, and to none.
func leads(m *model) []uint64 {
	n := len(m.words)
	all := []uint64{0, junk, math.MaxUint64, 1<<63 + 1, 1<<63 + 4, math.MaxInt64, math.MaxInt64 + 2, lead(2 * n), lead(2*n + 3), lead(n * n)}
	for at := range n + 10 {
		all = append(all, lead(at))
	}
	for shift := 11; shift < 64; shift++ {
		all = append(all, 1<<shift, 1<<shift+4)
	}
	return all
}

// markable tells whether a word may be marked, of a heap without words behind a region's Tams.
func markable(m *model, at int) bool {
	s := m.states[at/m.region]
	return (s == api.Old || s == api.HumStart) && at < m.tops[at/m.region]
}

// wantLed asks that of what a word leads to nothing but that is marked, and only where it may be.
func wantLed(t *testing.T, m *model, h *heap.Heap, w uint64, what string) {
	t.Helper()
	var want []int
	if at := m.target(w); at >= 0 && markable(m, at) {
		want = []int{at}
	}
	if l := h.Marks.List(); !slices.Equal(l, want) {
		t.Fatalf("%s %d: marked: %v, not %v", what, w, l, want)
	}
}

// Where the one handle leads, each of a thread's, and the one reference of a young object.
func TestWhereHandlesAndYoungOnesLead(t *testing.T) {
	m := stage()
	m.handles = make([][]uint64, 2)
	for _, at := range m.objects(api.Eden, api.Survivor) {
		m.words[at] = object(m.size(at), 1)
		m.words[at+1] = 0
	}
	for n, w := range leads(m) {
		one := m.clone()
		one.handles[n%2] = append(make([]uint64, n%8), w)
		h := one.lay(t)
		newCycle(t, h, n%3).Begin()
		wantLed(t, m, h, w, "a handle")
		one = m.clone()
		one.words[[]int{65, 69, 129}[n%3]] = w
		h = one.lay(t)
		newCycle(t, h, n%3).Begin()
		wantLed(t, m, h, w, "a young one's")
	}
}

func (m *model) size(at int) int {
	x, _ := header(m.words[at])
	return x.Size
}

// Where a logged reference leads, and one of a big and of an old object; also behind others that lead there.
func TestWhereOthersLead(t *testing.T) {
	m := stage()
	m.handles = make([][]uint64, 2)
	for _, at := range m.objects(api.Eden, api.Survivor) {
		m.words[at] = object(m.size(at), 0)
	}
	for _, w := range leads(m) {
		h := m.lay(t)
		c := newCycle(t, h, 1)
		c.Begin()
		c.Log([]api.Ref{api.Ref(w), api.Ref(w)})
		if !c.Step(0) {
			t.Fatal("a reference that waits isn't greyed")
		}
		wantLed(t, m, h, w, "a logged")
	}
	for _, field := range []int{452, 256, 332} {
		for _, w := range leads(m) {
			n := m.clone()
			for at := 193; at <= 332; at++ {
				n.words[at] = 0
			}
			for at := 450; at < 460; at++ {
				n.words[at] = 0
			}
			n.words[field] = w
			begin := 449
			if field < 400 {
				begin = 192
			}
			n.handle(begin)
			x := newWatch(t, n, 1)
			x.begin(t)
			for range 150 {
				x.step(t, 0)
			}
			marked := x.h.Marks
			if at := m.target(w); !marked.Has(begin) || at >= 0 && marked.Has(at) != markable(m, at) && at != begin {
				t.Fatalf("%d at %d: marked: %v", w, field, marked.List())
			}
		}
	}
}

// References to just below a region's Tams, to it, and behind it; of objects that were made behind Begin, too.
func TestReferencesAboutTams(t *testing.T) {
	for tams := 64; tams <= 128; tams += 8 {
		m := blank(small(4))
		m.be(1, api.Old, api.HumStart)
		for at := 64; at < tams; at++ {
			m.put(at, 1, 0)
		}
		m.tops[1] = tams
		m.put(128, 34, 0)
		x := newWatch(t, m, 1)
		x.begin(t)
		for at := tams; at < 128; at += 2 {
			x.both(func(h *heap.Heap) {
				h.Regions.Bump(1, 2)
				h.Arena.Store(at, object(2, 1))
				h.Arena.Store(at+1, lead(64))
			})
		}
		for at := 63; at < 194; at++ {
			x.log(t, lead(at))
			x.step(t, 0)
			x.step(t, 0)
			want := at >= 64 && at < tams || at >= 128 && at < 162
			if x.h.Marks.Has(at) != want {
				t.Errorf("Tams %d: the word %d is marked: %v", tams, at, !want)
			}
		}
		x.want(t, "logged")
	}
}
