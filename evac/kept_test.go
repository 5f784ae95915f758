package evac_test

import (
	"slices"
	"testing"

	"gleaner/api"
	"gleaner/heap"
)

// wantRow asks for a region's row: what stands at its addresses, told by the headers' words.
func wantRow(t *testing.T, h *heap.Heap, r int, addresses []int, words ...uint64) {
	t.Helper()
	row, e := h.Row(r)
	if !slices.Equal(row, addresses) || e != api.OK {
		t.Errorf("Row(%d): %v, %v, not %v", r, row, e, addresses)
		return
	}
	for i, at := range row {
		if w, _ := h.Arena.Load(at); w != words[i] {
			t.Errorf("the word %d: %d, not %d", at, w, words[i])
		}
		for card := range h.Geom.Cards {
			first := card * h.Geom.CardWords
			known, e := h.Offs.First(card)
			x, _ := header(words[i])
			if first >= at && first < at+x.Size && (known != at || e != api.OK) {
				t.Errorf("Offs.First(%d): %d, %v, not %d", card, known, e, at)
			}
		}
	}
}

// crowd is a home of eight things, of which the third and the sixth are fillers, with Ages.
func crowd(s api.RegionState, fail int) (*model, []int) {
	c := small(5)
	c.Fail = fail
	m := blank(c)
	m.be(0, api.Free, s)
	all := []int{64, 69, 75, 82, 90, 99, 109, 120}
	for i, at := range all {
		size := 5 + i
		if i == 7 {
			size = 8
		}
		if i == 2 || i == 5 {
			m.fill(at, size)
		} else {
			m.put(at, size, 2)
			m.age(at, i)
		}
	}
	return m, all
}

// Each set of a home's objects, all of them kept, the others not reached: these and the fillers are fillers then, as few as can be.
func TestEachSetOfKeptObjects(t *testing.T) {
	for _, s := range []api.RegionState{api.Eden, api.Survivor, api.Old} {
		for bits := range 1 << 8 {
			m, all := crowd(s, 1)
			var want []int
			var words []uint64
			for i, at := range all {
				isObject := i != 2 && i != 5
				if isObject && bits>>i&1 == 1 {
					m.handle(at)
					want = append(want, at)
					words = append(words, object(m.size(at), 2))
				} else if len(words) > 0 && words[len(words)-1]%4 == 2 {
					words[len(words)-1] += uint64(m.size(at)) * 4
				} else {
					want = append(want, at)
					words = append(words, filler(m.size(at)))
				}
			}
			x := pause(t, m.noteAll().lay(t), []int{1}, false)
			if len(x.reached) == 0 {
				continue
			}
			wantRow(t, x.h, 1, want, words...)
			if x.h.Regions.State(1) != api.Old || x.h.Regions.Top(1) != 128 || !slices.Equal(x.report.Kept, []int{1}) {
				t.Fatalf("%+v, Top %d", x.report, x.h.Regions.Top(1))
			}
		}
	}
}

func (m *model) size(at int) int {
	x, _ := header(m.words[at])
	return x.Size
}

// Some moves of a home fail: the first one, the last one, every other one; what was moved out of it is filler, too.
func TestSomeKept(t *testing.T) {
	for _, c := range []struct {
		order []int // the objects, by their places in the crowd, in the order in which they are moved
		fail  int
		row   []int
		words []uint64
	}{
		{[]int{1, 0, 3, 4, 6, 7}, 2, []int{64, 69, 90, 99, 120}, []uint64{object(5, 2), filler(21), object(9, 2), filler(21), object(8, 2)}},
		{[]int{0, 1, 3, 4, 6, 7}, 6, []int{64, 120}, []uint64{filler(56), object(8, 2)}},
		{[]int{1, 3, 4, 6, 7, 0}, 6, []int{64, 69}, []uint64{object(5, 2), filler(59)}},
		{[]int{0, 1, 3, 4, 6, 7}, 2, []int{64, 69, 75, 90, 99, 120}, []uint64{filler(5), object(6, 2), filler(15), object(9, 2), filler(21), object(8, 2)}},
		{[]int{1, 4, 3}, 3, []int{64, 82, 90}, []uint64{filler(18), object(8, 2), filler(38)}},
		{[]int{7, 6}, 2, []int{64, 109, 120}, []uint64{filler(45), object(11, 2), filler(8)}},
		{[]int{4, 3, 6, 1}, 2, []int{64, 69, 75, 82, 90}, []uint64{filler(5), object(6, 2), filler(7), object(8, 2), filler(38)}},
	} {
		for _, s := range []api.RegionState{api.Eden, api.Old} {
			m, all := crowd(s, c.fail)
			var order []int
			for _, i := range c.order {
				order = append(order, all[i])
			}
			x := pause(t, m.chain(order...).noteAll().lay(t), []int{1}, false)
			wantRow(t, x.h, 1, c.row, c.words...)
			if x.report.Failed != len(order)/c.fail || x.report.Moved != len(order)-x.report.Failed {
				t.Errorf("%+v", x.report)
			}
		}
	}
}

// A kept home of one object, at its beginning, at its end, and in between; behind the Top nothing is noted.
func TestOneKept(t *testing.T) {
	for at := 64; at < 128; at++ {
		for size := 1; at+size <= 128; size += 1 + size/3 {
			m := blank(small(3))
			m.c.Fail = 1
			m.be(0, api.Free, api.Eden)
			if at > 64 {
				m.fill(64, at-64)
			}
			m.put(at, size, 0)
			behind := at + size
			if behind+3 < 128 {
				m.put(behind, 3, 1)
			}
			x := pause(t, m.handle(at).lay(t), []int{1}, true)
			var row []int
			var words []uint64
			if at > 64 {
				row, words = append(row, 64), append(words, filler(at-64))
			}
			row, words = append(row, at), append(words, object(size, 0))
			if behind+3 < 128 {
				row, words = append(row, behind), append(words, filler(3))
			}
			wantRow(t, x.h, 1, row, words...)
			for card := range 24 {
				if _, e := x.h.Offs.First(card); (e == api.OK) != (card >= 8 && card*8 < m.tops[1]) {
					t.Fatalf("an object of %d words at %d: Offs.First(%d): %v", size, at, card, e)
				}
			}
		}
	}
}

// What is kept leads to what is moved, and the other way, and both to themselves.
func TestKeptAndMovedLeadToOneAnother(t *testing.T) {
	c := small(6)
	c.Fail = 2
	m := blank(c)
	m.be(0, api.Free, api.Eden, api.Survivor, api.Old, api.Old)
	m.put(64, 5, 4, 0, lead(64), lead(128), lead(192))
	m.put(128, 5, 4, 0, lead(64), lead(128), lead(192))
	m.put(192, 5, 4, 0, lead(64), lead(128), lead(192))
	m.put(256, 5, 4, 0, lead(64), lead(128), lead(192))
	x := pause(t, m.chain(64, 128, 192).remember(1, 258).remember(2, 259).remember(3, 260).noteAll().lay(t), []int{1, 2, 3}, false)
	// The first and the third one are moved, to 261 and 266, the second one is kept.
	for _, at := range []int{256, 261, 128, 266} {
		for k, want := range []uint64{lead(261), lead(128), lead(266)} {
			if w, _ := x.h.Arena.Load(at + 2 + k); w != want {
				t.Errorf("the reference at %d is %d, not %d", at+2+k, w, want)
			}
		}
	}
	if l := x.h.Sets.Cards(2); !slices.Equal(l, []int{32, 33}) {
		t.Errorf("the kept home remembers %v", l)
	}
	if l := x.h.Sets.Cards(4); !slices.Equal(l, []int{16}) {
		t.Errorf("the region 4 remembers %v", l)
	}
	if !slices.Equal(x.report.Freed, []int{1, 3}) || !slices.Equal(x.report.Kept, []int{2}) {
		t.Errorf("%+v", x.report)
	}
}

// A kept home is told of what is remembered for it, as ahead, and of what has become; but not of freed regions. Its dirty cards, marks and Tams are what they were; of freed ones nothing is left.
func TestTablesOfHomes(t *testing.T) {
	c := small(8)
	c.Fail = 2
	m := blank(c)
	m.be(0, api.Old, api.Old, api.Old, api.Old, api.HumStart, api.Old)
	m.put(0, 8, 4)
	m.put(64, 8, 4)
	m.put(128, 8, 4)
	m.put(192, 8, 4, lead(128))
	m.put(256, 60, 50)
	m.fill(320, 20)
	m.chain(64, 128)
	m.tams[1], m.tams[2] = 70, 130
	for r := range 8 {
		for card := range 64 {
			if card/8 != r && card%8 < 3 && card/8 < 4 {
				m.sets = append(m.sets, [2]int{r, card})
			}
		}
	}
	for card := range 64 {
		m.dirty = append(m.dirty, card)
	}
	for at := range m.words {
		m.marks = append(m.marks, at)
	}
	x := pause(t, m.noteAll().lay(t), []int{1, 2}, false)
	// What was at 64 is at 8, and leads to 128, which is kept: the card 1 has become one of its set's.
	if x.now[64] != 8 || !slices.Equal(x.report.Kept, []int{2}) || !slices.Equal(x.report.Freed, []int{1}) {
		t.Fatalf("%v, %+v", x.now, x.report)
	}
	if l := x.h.Sets.Cards(2); !slices.Equal(l, []int{0, 1, 2, 24, 25, 26}) {
		t.Errorf("the kept home remembers %v", l)
	}
	if l := x.h.Sets.Cards(1); len(l) > 0 {
		t.Errorf("the freed home remembers %v", l)
	}
	if l := x.h.Sets.Cards(0); !slices.Equal(l, []int{16, 17, 18, 24, 25, 26}) {
		t.Errorf("the region 0 remembers %v", l)
	}
	if n := x.h.Marks.Count(128, 192); n != 64 || x.h.Marks.Count(64, 128) != 0 || x.h.Marks.Count(0, 512) != 448 {
		t.Errorf("marked: %v", x.h.Marks.List())
	}
	if x.h.Regions.Tams(2) != 130 || x.h.Regions.Tams(1) != 64 || x.h.Regions.Top(1) != 64 || x.h.Regions.Top(2) != 136 {
		t.Errorf("Tams %d, %d, Tops %d, %d", x.h.Regions.Tams(1), x.h.Regions.Tams(2), x.h.Regions.Top(1), x.h.Regions.Top(2))
	}
	if l := x.h.Cards.List(); len(l) != 56 || x.h.Cards.Is(8) || !x.h.Cards.Is(16) {
		t.Errorf("dirty: %v", l)
	}
	if _, e := x.h.Offs.First(8); e != api.ErrNone {
		t.Errorf("of the freed home Offs knows: %v", e)
	}
	if at, e := x.h.Offs.First(1); at != 8 || e != api.OK {
		t.Errorf("what was moved is noted: %d, %v", at, e)
	}
}

// While a marking goes on young homes are kept and freed all the same; what is old is as it was.
func TestMarking(t *testing.T) {
	c := small(6)
	c.Fail, c.Tenure = 2, 3
	m := blank(c)
	m.be(0, api.Old, api.Eden, api.Survivor, api.HumStart)
	m.put(0, 8, 4, lead(128))
	m.put(64, 8, 4)
	m.put(128, 8, 4, lead(0))
	m.put(192, 50, 0)
	m.tams[0] = 8
	m.marks = []int{0, 192}
	x := pause(t, m.chain(64, 128).remember(2, 1).noteAll().lay(t), []int{2, 1}, true)
	if !slices.Equal(x.report.Kept, []int{2}) || !slices.Equal(x.report.Freed, []int{1}) || len(x.report.Big) > 0 || x.h.Regions.State(3) != api.HumStart {
		t.Errorf("%+v", x.report)
	}
	if x.h.Regions.State(4) != api.Survivor || x.h.Regions.Tams(2) != 128 || !x.h.Marks.Has(0) || !x.h.Marks.Has(192) {
		t.Errorf("Tams %d, marked %v", x.h.Regions.Tams(2), x.h.Marks.List())
	}
}
