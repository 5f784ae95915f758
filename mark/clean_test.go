package mark_test

import (
	"slices"
	"testing"

	"gleaner/api"
	"gleaner/heap"
)

// wantLive asks for the live words of the first regions.
func (x *watch) wantLive(t *testing.T, what string, live ...int) {
	t.Helper()
	for r, want := range live {
		if n := x.c.Live(r); n != want {
			t.Errorf("%s: Live(%d): %d, not %d", what, r, n, want)
		}
	}
}

// wantRow asks for the words of the headers of a region's row.
func (x *watch) wantRow(t *testing.T, r int, addresses []int, words ...uint64) {
	t.Helper()
	row, e := x.h.Row(r)
	if !slices.Equal(row, addresses) || e != api.OK {
		t.Errorf("Row(%d): %v, %v, not %v", r, row, e, addresses)
		return
	}
	for i, at := range row {
		if w, _ := x.h.Arena.Load(at); w != words[i] {
			t.Errorf("the word %d: %d, not %d", at, w, words[i])
		}
	}
}

// P17.3

// The chapter's example: two old objects, the one at 0 with a handle, or without.
func TestExample(t *testing.T) {
	for _, handle := range []bool{true, false} {
		m := blank(api.Config{Shift: 6, Regions: 4, CardShift: 3, Threads: 1, Roots: 4, Young: 1})
		m.be(0, api.Old)
		m.put(0, 3, 1)
		m.put(3, 5, 1)
		if handle {
			m.handle(0)
		}
		x := newWatch(t, m, 0)
		x.begin(t)
		x.finish(t)
		if !handle {
			if l := x.clean(t); !slices.Equal(l, []int{0}) {
				t.Errorf("freed: %v", l)
			}
			continue
		}
		x.wantLive(t, "Finish", 3)
		if l := x.clean(t); len(l) != 0 {
			t.Errorf("freed: %v", l)
		}
		x.wantRow(t, 0, []int{0, 3}, object(3, 1), filler(5))
		x.wantLive(t, "Clean", 3)
	}
}

// Live of the stage's regions, written out: ahead of a cycle, while it goes on, behind it; and of one that was aborted.
func TestLiveOfTheStage(t *testing.T) {
	for workers := range 4 {
		x := newWatch(t, stage(), workers)
		x.wantLive(t, "New", 52, 0, 0, 0, 0, 0, 0, 64, 0, 64, 0, 0, 0, 0)
		x.begin(t)
		x.wantLive(t, "Begin", 7+3, 0, 0, 0, 0, 0, 0, 11+6, 0, 0, 0, 0, 0, 0)
		x.log(t, lead(41), lead(42), lead(33))
		x.wantLive(t, "Log", 7+3, 0, 0, 0, 0, 0, 0, 11+6, 0, 0, 0, 0, 0, 0)
		x.finish(t)
		live := []int{7 + 20 + 1 + 2 + 7 + 4 + 3 + 2, 0, 0, 0, 0, 0, 0, 11 + 6 + 2, 0, 0, 0, 0, 0, 0}
		x.wantLive(t, "Finish", live...)
		if workers > 1 {
			x.clean(t)
		} else {
			x.abort(t)
		}
		x.wantLive(t, "behind it", live...)
		x.begin(t)
		x.wantLive(t, "a second Begin", 7+3, 0, 0, 0, 0, 0, 0, 11+6, 0, 0, 0, 0, 0, 0)
		x.clean(t)
		x.wantLive(t, "a second Clean", 7+20+1+3, 0, 0, 0, 0, 0, 0, 11+6+2, 0, 0, 0, 0, 0, 0)
	}
}

// Live of what is no region, and of a region of each state, marked or not.
func TestLiveOfNoOldRegion(t *testing.T) {
	x := newWatch(t, stage().strew(), 1)
	for n := range 3 {
		for _, r := range none(14) {
			if live := x.c.Live(r); live != 0 {
				t.Errorf("Live(%d): %d", r, live)
			}
		}
		if n < 2 {
			x.begin(t)
			x.finish(t)
			x.clean(t)
		}
	}
	for s := api.Free; s <= api.HumCont; s++ {
		m := blank(small(4))
		m.be(0, api.HumStart, s)
		m.put(0, 10, 0)
		if s == api.HumCont {
			m.put(0, 74, 0)
		} else if s != api.Free {
			m.put(64, 40, 0)
		}
		m.handle(0)
		if s != api.Free && s != api.HumCont {
			m.handle(64)
		}
		x := newWatch(t, m, 1)
		want := 0
		if s == api.Old {
			want = 40
		}
		x.wantLive(t, "New", 0, want)
		x.begin(t)
		x.wantLive(t, "Begin", 0, want)
		x.clean(t)
		x.wantLive(t, "Clean", 0, want)
	}
}

// What comes into a region behind Begin is live, marked by nobody; and what was in it is, if it is marked: those both together.
func TestLiveBehindTams(t *testing.T) {
	for marked := range 2 {
		m := blank(small(4))
		m.be(0, api.Old, api.Old)
		m.put(0, 5, 0)
		m.put(5, 6, 1)
		if marked == 1 {
			m.handle(5)
		}
		x := newWatch(t, m, 1)
		x.begin(t)
		x.wantLive(t, "Begin", 6*marked, 0)
		x.both(func(h *heap.Heap) {
			h.Regions.Bump(0, 3)
			h.Arena.Store(11, object(3, 0))
			h.Regions.Bump(1, 60)
			h.Arena.Store(64, object(60, 59))
			h.Regions.Claim(api.Eden)
			h.Regions.Bump(2, 10)
			h.Arena.Store(128, object(10, 1))
		})
		x.wantLive(t, "Bump", 3+6*marked, 60, 0)
		x.both(func(h *heap.Heap) { h.Regions.Turn(2, api.Old) })
		x.wantLive(t, "Turn", 3+6*marked, 60, 10)
		x.log(t, lead(11), lead(64), lead(128))
		x.finish(t)
		x.wantLive(t, "Finish", 3+6*marked, 60, 10)
		if l := x.clean(t); len(l) != 0 {
			t.Errorf("freed: %v", l)
		}
		if marked == 1 {
			x.wantRow(t, 0, []int{0, 5, 11}, filler(5), object(6, 1), object(3, 0))
		} else {
			x.wantRow(t, 0, []int{0, 11}, filler(11), object(3, 0))
		}
		x.wantLive(t, "Clean", 3+6*marked, 60, 10)
		// Nothing leads to them when the next cycle begins.
		x.both(func(h *heap.Heap) { h.Roots[0].Pop() })
		x.begin(t)
		x.wantLive(t, "Begin", 0, 0, 0)
		if l := x.clean(t); !slices.Equal(l, []int{0, 1, 2}) {
			t.Errorf("freed: %v", l)
		}
	}
}

// Finish does all, whatever is begun: behind each number of steps, with workers at objects, overflown or not, and with none; once more it has nothing to do, till something is logged.
func TestFinishBehindEachStep(t *testing.T) {
	for steps := range 40 {
		for _, stack := range []int{0, 1, 2, 16} {
			for workers := range 4 {
				m := stage()
				x := newWatch(t, m.withStack(stack), workers)
				x.begin(t)
				x.log(t, lead(576), 0, junk)
				for k := range steps {
					x.step(t, k%max(workers, 1))
				}
				x.finish(t)
				if l, want := x.h.Marks.List(), m.comeTo(map[int]bool{576: true}); !slices.Equal(l, want) {
					t.Fatalf("%d steps of %d workers, stack %d: marked: %v, not %v", steps, workers, stack, l, want)
				}
				x.finish(t)
				x.log(t, lead(31), lead(768))
				x.finish(t)
				if l, want := x.h.Marks.List(), m.comeTo(map[int]bool{576: true, 31: true, 768: true}); !slices.Equal(l, want) {
					t.Fatalf("behind a second Log: marked: %v, not %v", l, want)
				}
				x.abort(t)
			}
		}
	}
}

// P17.4

// Clean of the stage, written out.
func TestCleanOfTheStage(t *testing.T) {
	for _, m := range []*model{stage(), stage().strew()} {
		for workers := range 3 {
			x := newWatch(t, m, workers)
			x.begin(t)
			if l := x.clean(t); !slices.Equal(l, []int{9, 10, 12, 13}) {
				t.Errorf("freed: %v", l)
			}
			x.wantRow(t, 0, []int{0, 3, 10, 30, 31, 47, 50}, filler(3), object(7, 4), object(20, 3), object(1, 0), filler(16), object(3, 2), filler(2))
			x.wantRow(t, 7, []int{448, 449, 460, 466, 468}, filler(1), object(11, 10), object(6, 1), object(2, 1), filler(44))
			x.wantRow(t, 1, []int{64, 68}, object(4, 2), object(3, 1))
			x.wantRow(t, 3, []int{192}, object(150, 140))
			x.wantRow(t, 8, []int{512}, object(40, 39))
			x.wantRow(t, 11, []int{704}, object(50, 1))
			for card, want := range map[int]int{0: 0, 1: 3, 2: 10, 3: 10, 4: 31, 5: 31, 6: 47, 56: 448, 57: 449, 58: 460, 59: 468, 63: 468} {
				if at, e := x.h.Offs.First(card); at != want || e != api.OK {
					t.Errorf("Offs: the card %d: %d, %v, not %d", card, at, e, want)
				}
			}
			if e := x.h.Check(); e != api.OK {
				t.Error(e)
			}
		}
	}
}

// What Clean answers is new memory: it may be changed, and kept, whatever is called behind it.
func TestFreedListIsNew(t *testing.T) {
	m := blank(small(8))
	m.be(0, api.Old, api.HumStart, api.HumCont, api.Old, api.Old)
	m.put(0, 4, 0)
	m.put(64, 100, 0)
	m.put(192, 4, 0)
	m.put(256, 4, 0)
	m.handle(256)
	x := newWatch(t, m, 1)
	x.begin(t)
	one := x.clean(t)
	x.both(func(h *heap.Heap) {
		h.Regions.Claim(api.Old)
		h.Regions.Claim(api.Old)
	})
	x.begin(t)
	other := x.clean(t)
	if !slices.Equal(one, []int{0, 1, 2, 3}) || !slices.Equal(other, []int{0, 1}) {
		t.Fatal(one, other)
	}
	one[0], other[0] = 77, 88
	_ = append(one[:1], 66)
	x.want(t, "spoiled lists")
	x.begin(t)
	if l := x.clean(t); len(l) != 0 {
		t.Error(l)
	}
	if !slices.Equal(other, []int{88, 1}) || one[0] != 77 {
		t.Error(one, other)
	}
}

// letter is what stands in a row: an object that is marked, one that isn't, a filler.
type letter int

const (
	kept letter = iota
	lost
	fills
)

// eachRow gives all rows of so many letters.
func eachRow(n int, do func(row []letter)) {
	row := make([]letter, n)
	for {
		do(row)
		k := 0
		for ; k < n && row[k] == fills; k++ {
			row[k] = kept
		}
		if k == n {
			return
		}
		row[k]++
	}
}

// wantOffs asks that Offs knows of just what stands in the rows of old regions, and of big objects.
func (x *watch) wantOffs(t *testing.T) {
	t.Helper()
	want := read(x.h).noteAll()
	for card := range want.known {
		at, e := x.h.Offs.First(card)
		if known := want.known[card]; known < 0 && e != api.ErrNone || known >= 0 && (at != known || e != api.OK) {
			t.Fatalf("Offs: the card %d: %d, %v, not %d", card, at, e, known)
		}
	}
}

// Each row of up to six objects and fillers, of one word and of more, with Tams behind each of them: the lost ones below Tams go, with the fillers about them; all else stays as it is.
func TestEachRow(t *testing.T) {
	for n := range 7 {
		eachRow(n, func(row []letter) {
			for tams := range n + 1 {
				sizes := []int{1, 2, 3, 9, 5, 10}
				if tams%2 == 1 {
					sizes = []int{1, 1, 8, 1, 1, 17}
				}
				rowWith(t, row, sizes, tams)
			}
		})
	}
}

// rowWith cleans a region with a row, of which the objects behind the first few come into it behind Begin.
func rowWith(t *testing.T, row []letter, sizes []int, below int) {
	t.Helper()
	m := blank(small(2))
	m.be(0, api.Old, api.Eden)
	m.c.Roots = 16
	var at, live int
	for i, k := range row[:below] {
		if k == fills {
			m.fill(at, sizes[i])
		} else {
			m.put(at, sizes[i], 0)
		}
		if k == kept {
			m.handle(at)
			live += sizes[i]
		}
		at += sizes[i]
	}
	x := newWatch(t, m.noteAll(), 1)
	x.begin(t)
	for i, k := range row[below:] {
		size := sizes[below+i]
		w := object(size, 0)
		if k == fills {
			w = filler(size)
		}
		x.both(func(h *heap.Heap) {
			at, _ := h.Regions.Bump(0, size)
			h.Arena.Store(at, w)
			h.Offs.Put(at, size)
		})
		live += size
	}
	x.finish(t)
	x.wantLive(t, "Finish", live, 0)
	l := x.clean(t)
	if freed := len(l) > 0; freed != (live == 0) {
		t.Fatalf("%v, Tams behind %d: freed: %v", row, below, l)
	}
	x.wantOffs(t)
	if e := x.h.Check(); e != api.OK {
		t.Fatalf("%v, Tams behind %d: %v", row, below, e)
	}
}

// Of fillers alone none is made, where no object is lost beside them: they stay as they are, each one.
func TestFillersAlone(t *testing.T) {
	m := blank(small(2))
	m.be(0, api.Old)
	m.fill(0, 2)
	m.fill(2, 3)
	m.put(5, 4, 0)
	m.fill(9, 1)
	m.fill(10, 20)
	m.handle(5)
	x := newWatch(t, m, 1)
	x.begin(t)
	x.log(t, lead(0), lead(9)) // fillers that are marked stay fillers
	x.clean(t)
	x.wantRow(t, 0, []int{0, 2, 5, 9, 10}, filler(2), filler(3), object(4, 0), filler(1), filler(20))
	if _, e := x.h.Offs.First(0); e != api.ErrNone {
		t.Error("a filler is noted")
	}
}

// A row that ends where a buffer has words left: what is behind isn't touched.
func TestRowWithABuffer(t *testing.T) {
	for end := 65; end < 128; end++ {
		m := blank(small(4))
		m.be(1, api.Old)
		m.put(64, 1, 0)
		for at := 65; at < end; at++ {
			m.put(at, 1, 0)
		}
		for at := end; at < 128; at++ {
			m.words[at] = junk
		}
		m.buffers[1], m.tops[1] = piece{64, end - 64, 128}, 128
		x := newWatch(t, m.handle(64), 1)
		x.begin(t)
		x.clean(t)
		if end > 65 {
			x.wantRow(t, 1, []int{64, 65}, object(1, 0), filler(end-65))
		}
	}
}

// Big objects of each number of regions, side by side: of those below Tams that aren't marked all regions are freed, those that came behind Begin stay.
func TestBigObjects(t *testing.T) {
	sizes := []int{33, 64, 65, 100, 128, 129, 192}
	for n := range 1 << 7 {
		m := blank(small(16))
		m.c.Roots = 16
		var want []int
		first := 0
		for k, size := range sizes {
			span := (size + 63) / 64
			m.be(first, api.HumStart)
			for i := 1; i < span; i++ {
				m.be(first+i, api.HumCont)
			}
			m.put(first*64, size, size-1)
			for i := range span {
				if n>>k&1 == 0 {
					want = append(want, first+i)
				}
			}
			if n>>k&1 == 1 {
				m.handle(first * 64)
			}
			first += span
		}
		x := newWatch(t, m.noteAll().strew(), n%3)
		x.begin(t)
		x.both(func(h *heap.Heap) {
			r, _ := h.Regions.Run(2, 70)
			h.Arena.Store(r*64, object(70, 1))
			h.Offs.Put(r*64, 70)
		})
		if l := x.clean(t); !slices.Equal(l, want) {
			t.Fatalf("marked %b: freed: %v, not %v", n, l, want)
		}
		x.wantOffs(t)
		if e := x.h.Check(); e != api.OK {
			t.Fatal(e)
		}
	}
}

// Regions that a thread has taken for a big object that it didn't make yet stay, whatever word is there.
func TestBigObjectThatIsYetToBeMade(t *testing.T) {
	for _, w := range append(letters, object(70, 69), object(64, 1)) {
		m := blank(small(6))
		m.be(0, api.Old)
		m.put(0, 4, 0)
		m.words[64] = w
		x := newWatch(t, m.handle(0), 1)
		x.begin(t)
		x.both(func(h *heap.Heap) { h.Regions.Run(2, 70) })
		if l := x.clean(t); len(l) != 0 {
			t.Fatalf("freed: %v", l)
		}
		x.both(func(h *heap.Heap) { h.Arena.Store(64, object(70, 3)) })
		x.begin(t)
		if l := x.clean(t); !slices.Equal(l, []int{1, 2}) {
			t.Fatalf("freed: %v", l)
		}
	}
}

// Where a row is none any more nobody can tell what would be lost: it stays.
func TestCleanWhereARowIsNone(t *testing.T) {
	for _, at := range []int{0, 4, 64, 128} {
		for _, w := range letters {
			m := blank(small(6))
			m.be(0, api.Old, api.Old, api.HumStart, api.HumCont)
			m.put(0, 4, 0)
			m.put(4, 4, 0)
			m.put(64, 4, 0)
			m.put(128, 70, 0)
			x := newWatch(t, m.handle(4), 2)
			x.begin(t)
			x.store(at, w)
			l := x.clean(t)
			if _, e := x.h.Row(0); e != api.OK && slices.Contains(l, 0) {
				t.Fatal("a region whose row is none is freed")
			}
			if w == 0 && at >= 64 && slices.Contains(l, at/64) {
				t.Fatalf("%d at %d: freed: %v", w, at, l)
			}
		}
	}
}

// An Old region with nothing in it, or with nothing but fillers, is freed, whenever it became Old.
func TestEmptyRegions(t *testing.T) {
	m := blank(small(8))
	m.be(0, api.Old, api.Old, api.Eden, api.Eden, api.Old)
	m.fill(64, 64)
	m.put(192, 3, 0)
	m.put(256, 3, 0)
	m.handle(256)
	x := newWatch(t, m.strew(), 1)
	x.begin(t)
	x.both(func(h *heap.Heap) {
		h.Regions.Turn(2, api.Old)
		h.Regions.Turn(3, api.Old)
		h.Regions.Claim(api.Old)
		h.Regions.Claim(api.Eden)
	})
	if l := x.clean(t); !slices.Equal(l, []int{0, 1, 2, 5}) {
		t.Errorf("freed: %v", l)
	}
}

// A region that was freed by hand while the cycle went on, with its objects on the stack, and is another one now.
func TestRegionIsFreedAndClaimedMeanwhile(t *testing.T) {
	for steps := range 20 {
		for _, s := range []api.RegionState{api.Eden, api.Old, api.Survivor} {
			for _, stack := range []int{1, 16} {
				m := blank(small(4))
				m.c.Stack = stack
				m.be(0, api.Old, api.Old)
				m.put(0, 4, 3, lead(4), 0, lead(4))
				m.put(4, 4, 3)
				m.put(64, 4, 3, lead(0), lead(4))
				m.put(68, 4, 0)
				x := newWatch(t, m.handle(64, 68, 0), 2)
				x.begin(t)
				for k := range steps {
					x.step(t, k%2)
				}
				x.both(func(h *heap.Heap) {
					h.Free(0)
					h.Regions.Claim(s)
					h.Regions.Bump(0, 10)
					h.Arena.Store(0, object(2, 0))
					h.Arena.Store(2, object(8, 4))
					h.Arena.Store(3, 0)
					h.Arena.Store(4, lead(68))
					h.Roots[0].Set(2, 1)
					h.Arena.Store(65, 0)
					h.Arena.Store(66, 0)
				})
				x.stepAll(t, new(dice(steps)))
				if l := x.clean(t); len(l) != 0 {
					t.Fatalf("freed: %v", l)
				}
				if e := x.h.Check(); e != api.OK {
					t.Fatal(e)
				}
			}
		}
	}
}

// Abort behind each number of steps: nothing waits any more, and the next cycle does just what a first one does.
func TestAbortBehindEachStep(t *testing.T) {
	for steps := range 40 {
		for _, stack := range []int{0, 1, 2, 16} {
			m := stage().strew().withStack(stack)
			x := newWatch(t, m, 3)
			x.begin(t)
			x.log(t, lead(41), lead(31), lead(768))
			for k := range steps {
				x.step(t, k%3)
			}
			marked := x.h.Marks.List()
			x.abort(t)
			if l := x.h.Marks.List(); !slices.Equal(l, marked) {
				t.Fatalf("Abort: marked: %v, not %v", l, marked)
			}
			for worker := range 3 {
				if x.step(t, worker) {
					t.Fatalf("behind Abort the worker %d has something to do", worker)
				}
			}
			x.begin(t)
			if steps%2 == 0 {
				x.stepAll(t, new(dice(steps)))
				if l, want := x.h.Marks.List(), m.comeTo(nil); !slices.Equal(l, want) {
					t.Fatalf("marked: %v, not %v", l, want)
				}
			}
			if l := x.clean(t); !slices.Equal(l, []int{9, 10, 12, 13}) {
				t.Fatalf("freed: %v", l)
			}
		}
	}
}
