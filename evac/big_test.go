package evac_test

import (
	"slices"
	"testing"

	"gleaner/api"
)

// P19.2

// lone is a heap with a big object of so many words in the regions from 2 on, to which nothing leads yet; 0 is old, 1 is Eden, the last one old.
func lone(size int) *model {
	m := blank(small(10))
	m.be(0, api.Old, api.Eden, api.HumStart)
	for r := 3; m.base(r) < 128+size; r++ {
		m.be(r, api.HumCont)
	}
	m.be(9, api.Old)
	m.put(0, 8, 4)
	m.put(64, 8, 4)
	m.put(72, 8, 4)
	m.put(128, size, 0)
	m.put(576, 8, 4)
	for k := 129; k < 128+size; k++ {
		m.words[k] = lead(128)
	}
	return m.noteAll()
}

// wantBig pauses a heap, and asks whether the big object at 128 goes.
func wantBig(t *testing.T, what string, m *model, homes []int, marking, goes bool) {
	t.Helper()
	x := pause(t, m.lay(t), homes, marking)
	var want []int
	s := api.HumStart
	if goes {
		want, s = []int{2}, api.Free
	}
	if !slices.Equal(x.report.Big, want) || x.h.Regions.State(2) != s {
		t.Errorf("%s, marking %v: Big %v, the region 2 is %d", what, marking, x.report.Big, x.h.Regions.State(2))
	}
	for r := 3; r < 9; r++ {
		if m.states[r] == api.HumCont && (x.h.Regions.State(r) == api.Free) != goes {
			t.Errorf("%s: the region %d is %d", what, r, x.h.Regions.State(r))
		}
	}
}

// A big object of one region, to its end, and of several: each reason alone for which it isn't idle, and what is none.
func TestIdle(t *testing.T) {
	for _, size := range []int{33, 64, 65, 128, 129, 400} {
		homes := []int{1}
		m := lone(size).handle(64)
		wantBig(t, "nothing leads to it", m, homes, false, true)
		wantBig(t, "nothing leads to it", m, homes, true, false)
		wantBig(t, "nothing leads to it", m, []int{9, 1}, false, true)

		n := m.clone()
		n.put(128, size, 1)
		wantBig(t, "it has a reference that is nil", n, homes, false, false)
		n.put(128, size, size-1, slices.Repeat([]uint64{lead(128)}, size-1)...)
		wantBig(t, "it has references to itself", n, homes, false, false)

		n = m.clone()
		n.handles[1] = []uint64{0, 0, lead(128)}
		wantBig(t, "a handle leads to it", n, homes, false, false)
		n.handles[1] = []uint64{0, lead(576)}
		wantBig(t, "handles lead elsewhere", n, homes, false, true)

		for fail := range 2 {
			for _, tenure := range []int{0, 7} {
				n = m.clone()
				n.c.Fail, n.c.Tenure = fail, tenure
				n.words[68] = lead(128)
				wantBig(t, "what was reached leads to it", n, homes, false, false)
				n.words[68], n.words[69] = 0, lead(128)
				wantBig(t, "a data word looks like a reference to it", n, homes, false, true)
				n.words[69], n.words[74] = 0, lead(128)
				wantBig(t, "what isn't reached leads to it", n, homes, false, true)
				n.words[65] = lead(72)
				wantBig(t, "what is reached by what is reached leads to it", n, homes, false, false)
			}
		}

		n = m.clone()
		n.words[1] = lead(128)
		wantBig(t, "the outside leads to it, and that isn't remembered", n, homes, false, true)
		n.remember(2, 1)
		wantBig(t, "the outside leads to it", n, homes, false, false)
		n = m.clone().remember(2, 60)
		wantBig(t, "its set remembers a card, and nothing leads to it", n, homes, false, false)
		n = m.clone()
		n.words[1], n.pushed = lead(128), [][2]int{{1, 0}}
		wantBig(t, "the outside's card waits", n, homes, false, false)
		n = m.clone().remember(1, 130).remember(9, 129).remember(0, 131)
		wantBig(t, "others remember its cards", n, homes, false, true)

		n = m.clone().remember(2, 580)
		n.words[580] = lead(128)
		wantBig(t, "a home that isn't kept is remembered", n, []int{9, 1}, false, true)
		wantBig(t, "what will be a home is remembered", n, homes, false, false)
		n.c.Fail = 1
		wantBig(t, "a home without kept objects is remembered", n, []int{9, 1}, false, true)
		n.handle(576)
		n.words[580] = 0
		wantBig(t, "a kept home's card is remembered", n, []int{9, 1}, false, false)
		if size > 64 {
			n = m.clone().remember(3, 1, 580)
			wantBig(t, "a region that it goes on in remembers cards", n, homes, false, true)
		}
	}
}

// Many big objects, side by side and apart, some of them idle: all regions of these are freed, and of no other one.
func TestManyBigObjects(t *testing.T) {
	sizes := []int{40, 65, 64, 128, 190, 33, 70}
	for bits := range 1 << 7 {
		m := blank(small(16))
		m.be(0, api.Old, api.Eden)
		m.put(64, 8, 7)
		m.handle(64)
		r := 2
		var want, regions []int
		for k, size := range sizes {
			m.be(r, api.HumStart)
			for q := r + 1; m.base(q) < m.base(r)+size; q++ {
				m.be(q, api.HumCont)
			}
			m.put(m.base(r), size, 0)
			first := r
			for r++; m.states[r] == api.HumCont; r++ {
			}
			if bits>>k&1 == 1 {
				m.words[65+k] = lead(m.base(first))
				continue
			}
			want = append(want, first)
			for q := first; q < r; q++ {
				regions = append(regions, q)
			}
		}
		x := pause(t, m.noteAll().lay(t), []int{1}, false)
		if !slices.Equal(x.report.Big, want) || !slices.Equal(x.h.Regions.List(api.Free), slices.Concat([]int{1}, regions, []int{r, r + 1}[:16-r])) {
			t.Errorf("Big %v, not %v: free are %v", x.report.Big, want, x.h.Regions.List(api.Free))
		}
	}
}

// One idle big object's region is remembered for another one: that isn't idle, whichever of them lies ahead, since all are found ahead of the first that goes. What goes is forgotten.
func TestBigObjectsThatRememberEachOther(t *testing.T) {
	m := blank(small(4))
	m.be(0, api.HumStart, api.HumStart, api.HumStart)
	m.put(0, 40, 0)
	m.put(64, 40, 0)
	m.put(128, 40, 0)
	m.remember(1, 5).remember(2, 70)
	x := pause(t, m.lay(t), nil, false)
	if !slices.Equal(x.report.Big, []int{0}) {
		t.Errorf("Big %v", x.report.Big)
	}
	x = pause(t, x.h, nil, false)
	if !slices.Equal(x.report.Big, []int{1}) {
		t.Errorf("Big %v", x.report.Big)
	}
	m.sets = [][2]int{{0, 8}, {1, 16}}
	x = pause(t, m.lay(t), nil, false)
	if !slices.Equal(x.report.Big, []int{2}) {
		t.Errorf("Big %v", x.report.Big)
	}
}

// What idle big objects had isn't there for what is moved: it is freed behind that.
func TestBigObjectsAreFreedLast(t *testing.T) {
	m := blank(small(3))
	m.be(0, api.Eden, api.HumStart, api.HumCont)
	m.put(0, 5, 4)
	m.put(64, 70, 0)
	x := pause(t, m.handle(0).noteAll().lay(t), []int{0}, false)
	if x.report.Failed != 1 || !slices.Equal(x.report.Kept, []int{0}) || !slices.Equal(x.report.Big, []int{1}) {
		t.Errorf("%+v", x.report)
	}
	x = pause(t, x.h, []int{0}, false)
	if x.now[0] != 64 || !slices.Equal(x.report.Freed, []int{0}) {
		t.Errorf("%+v", x.report)
	}
}

// Nothing of a big object is known any more that was freed: no card, no mark, nothing that was remembered.
func TestTablesOfFreedBigObjects(t *testing.T) {
	m := lone(150).handle(64)
	for card := 16; card < 40; card++ {
		m.remember(0, card*8)
		m.dirty = append(m.dirty, card)
	}
	for at := range m.words {
		m.marks = append(m.marks, at)
	}
	x := pause(t, m.lay(t), []int{1}, false)
	if len(x.h.Sets.Cards(0)) > 0 || len(x.h.Cards.List()) > 0 || x.h.Marks.Count(128, 320) > 0 || x.h.Marks.Count(320, 640) != 320 {
		t.Errorf("%v, %v", x.h.Sets.Cards(0), x.h.Cards.List())
	}
	for card := 16; card < 40; card++ {
		if _, e := x.h.Offs.First(card); e != api.ErrNone {
			t.Errorf("Offs.First(%d): %v", card, e)
		}
	}
}
