package full_test

import (
	"slices"
	"testing"

	"gleaner/api"
	"gleaner/full"
)

// big lays a big object from a region on, with all the regions that it takes, that leads to itself by its first and last references.
func (m *model) big(r, size int) int {
	m.be(r, api.HumStart)
	for n := 1; n*m.region < size; n++ {
		m.be(r+n, api.HumCont)
	}
	at := m.base(r)
	m.put(at, size, size-2, lead(at))
	m.words[at+size-2], m.words[at+size-1] = lead(at), lead(at)
	return at
}

// P20.1, P20.3: a big object of each size, wherever it stands, with a smaller one below and one above it: it takes the lowest regions, as many as it needs, and they stand behind it.
func TestBigOfEachSize(t *testing.T) {
	for size := 33; size <= 6*64; size++ {
		span := (size + 63) / 64
		for _, first := range []int{0, 1, 2, 7 - span, 8 - span} {
			m := blank(small(8))
			m.big(first, size)
			m.handle(64 * first)
			want := []is{{api.HumStart, []int{0}}}
			for n := 1; n < span; n++ {
				want = append(want, is{api.HumCont, nil})
			}
			var row []int
			if first > 0 {
				m.be(first-1, api.Eden)
				m.put(64*first-64, 10, 1, lead(64*first))
				m.handle(64*first - 64)
				row = append(row, 64*span)
			}
			if above := first + span; above < 8 {
				m.be(above, api.Old)
				m.put(64*above, 12, 1, lead(64*first))
				m.handle(64 * above)
				row = append(row, 64*span+10*len(row))
			}
			x := compact(t, m.noteAll().lay(t))
			wantRegions(t, x.h, append(want, is{api.Old, row})...)
			if top := x.h.Regions.Top(span - 1); top != size {
				t.Fatalf("a big object of %d words ends at %d", size, top)
			}
		}
	}
}

// P20.1: big objects that move over regions in which others still stand, by less than they are great, that stay, that end just at a region's end or one word behind its beginning.
func TestBigOverOthers(t *testing.T) {
	S, C, O := api.HumStart, api.HumCont, api.Old
	for k, c := range []struct {
		lay  func(m *model) []int // what has handles
		want []is
		lead []int // where the handles lead then
	}{
		// By one region, though it is of three.
		{func(m *model) []int { return []int{m.big(1, 190)} }, []is{{S, []int{0}}, {C, nil}, {C, nil}}, []int{0}},
		{func(m *model) []int { return []int{m.big(2, 129)} }, []is{{S, []int{0}}, {C, nil}, {C, nil}}, []int{0}},
		{func(m *model) []int { return []int{m.big(0, 128), m.big(2, 65)} }, []is{{S, []int{0}}, {C, nil}, {S, []int{128}}, {C, nil}}, []int{0, 128}},
		// Over old ones that go behind it.
		{func(m *model) []int { return append(m.sizes(0, O, 20, 20, 20, 20), m.big(2, 100)) }, []is{{S, []int{0}}, {C, nil}, {O, []int{128, 148, 168}}, {O, []int{192}}}, []int{128, 148, 168, 192, 0}},
		{func(m *model) []int { return append(m.sizes(0, api.Eden, 30, 30, 30), m.big(2, 64), m.big(4, 65)) }, []is{{S, []int{0}}, {S, []int{64}}, {C, nil}, {O, []int{192, 222}}, {O, []int{256}}}, []int{192, 222, 256, 0, 64}},
		{func(m *model) []int { return append(m.sizes(2, O, 32, 32), m.big(0, 33), m.big(3, 128)) }, []is{{S, []int{0}}, {S, []int{64}}, {C, nil}, {O, []int{192, 224}}}, []int{192, 224, 0, 64}},
		// Over big ones that aren't left.
		{func(m *model) []int { m.big(0, 129); return []int{m.big(3, 128), m.big(6, 40)} }, []is{{S, []int{0}}, {C, nil}, {S, []int{128}}}, []int{0, 128}},
		{func(m *model) []int { m.big(0, 64); m.big(2, 33); return []int{m.big(1, 64), m.big(3, 300)} }, []is{{S, []int{0}}, {S, []int{64}}, {C, nil}, {C, nil}, {C, nil}, {C, nil}}, []int{0, 64}},
		// One that ends just at a region's end, and one word behind its beginning.
		{func(m *model) []int { return append([]int{m.big(1, 128), m.big(4, 129)}, m.sizes(3, O, 1)...) }, []is{{S, []int{0}}, {C, nil}, {S, []int{128}}, {C, nil}, {C, nil}, {O, []int{320}}}, []int{0, 128, 320}},
		// Half a region isn't big, one word more is.
		{func(m *model) []int { return append(m.sizes(0, O, 32, 32), m.sizes(1, O, 32, 31, 33)...) }, []is{{S, []int{0}}, {O, []int{64, 96}}, {O, []int{128, 160}}}, []int{64, 96, 128, 160, 0}},
	} {
		m := blank(small(9))
		all := c.lay(m)
		m.handles = make([][]uint64, 2)
		x := compact(t, m.handle(all...).noteAll().lay(t))
		wantRegions(t, x.h, c.want...)
		wantHandles(t, x.h, 0, c.lead...)
		if t.Failed() {
			t.Fatalf("case %d", k)
		}
	}
}

// P20.1: each set of five big objects being left, with what stands between them being left or not.
func TestEachSetOfBigObjects(t *testing.T) {
	for bits := range 1 << 8 {
		m := blank(small(14))
		var places []int
		top, shared := 0, 0
		for i, size := range []int{64, 100, 33, 192, 65} {
			at := m.big([]int{0, 2, 4, 6, 10}[i], size)
			if bits>>i&1 == 1 {
				m.handle(at)
				places = append(places, top)
				top += (size + 63) / 64
			}
		}
		for i, r := range []int{1, 5, 12} {
			m.be(r, []api.RegionState{api.Old, api.Survivor, api.Eden}[i])
			m.fill(m.base(r), 3)
			m.put(m.base(r)+3, 20, 1, lead(m.base(6)))
			m.words[m.base(r)+4] = lead(m.base(r) + 3)
			if bits>>(5+i)&1 == 1 {
				m.handle(m.base(r) + 3)
				places = append(places, top)
				shared++
			}
		}
		x := compact(t, m.noteAll().lay(t))
		for i, r := range x.h.Roots[0].List() {
			want := 64 * places[i]
			if i >= len(places)-shared {
				want = 64*top + 20*(i-len(places)+shared)
			}
			if uint64(r) != lead(want) {
				t.Fatalf("set %b: the handle %d: %d, not %d", bits, i, r, lead(want))
			}
		}
		if x.apart != top {
			t.Fatalf("%d regions, not %d", x.apart, top)
		}
	}
}

// P20.1: what is big is told by its Size: a small object that has a region of its own goes with the others, a big one that stands with others goes apart.
func TestBigIsToldBySize(t *testing.T) {
	for size := 1; size <= 64; size++ {
		m := blank(small(6))
		m.be(1, api.HumStart, api.Old, api.Eden)
		m.put(64, size, 0)
		m.put(128, 64-size+1, 0)
		m.sizes(3, api.Eden, size)
		m.handles = make([][]uint64, 2)
		x := compact(t, m.handle(64, 128, 192).noteAll().lay(t))
		if size <= 32 {
			want := []is{{api.Old, []int{0, size}}}
			if size < 32 {
				want = []is{{api.HumStart, []int{0}}, {api.Old, []int{64, 64 + size}}}
			} else {
				want = []is{{api.HumStart, []int{0}}, {api.Old, []int{64, 96}}}
			}
			wantRegions(t, x.h, want...)
		} else {
			wantRegions(t, x.h, is{api.HumStart, []int{0}}, is{api.HumStart, []int{64}}, is{api.Old, []int{128}})
		}
	}
}

// A big object's regions that it doesn't take, and such as belong to none: they are free then.
func TestRegionsThatNoObjectTakes(t *testing.T) {
	m := blank(small(9))
	m.be(1, api.HumStart, api.HumCont, api.HumCont, api.HumCont, api.Old, api.HumStart, api.HumCont)
	m.put(64, 70, 3, lead(64))
	m.put(320, 3, 1, lead(64))
	m.put(384, 66, 0)
	h := m.handle(320).noteAll().lay(t)
	wantRegions(t, compact(t, h).h, is{api.HumStart, []int{0}}, is{api.HumCont, nil}, is{api.Old, []int{128}})

	h = m.lay(t)
	// The object of 6 loses its first region: nobody's is what is left of it.
	h.Regions.Release(6)
	if h.Regions.State(7) != api.HumCont || h.Check() != api.OK {
		t.Fatal("it isn't sound")
	}
	wantRegions(t, compact(t, h).h, is{api.HumStart, []int{0}}, is{api.HumCont, nil}, is{api.Old, []int{128}})
}

// Rows that no layer makes, of a big object and others: so many that they can't all be apart. The heap is compacted all the same, and all but the big ones' places is as ever.
func TestBigOnesThatCannotBeApart(t *testing.T) {
	m := blank(small(4))
	m.be(0, api.Old, api.Eden, api.HumStart, api.Survivor)
	m.put(0, 40, 3, lead(64), lead(40), lead(128))
	m.put(40, 24, 2, lead(0), lead(107))
	m.put(64, 43, 3, lead(192), lead(128), lead(0))
	m.put(107, 21, 20, lead(192))
	m.age(107, 3)
	m.put(128, 64, 60, lead(107), lead(128))
	m.put(192, 33, 1, lead(225))
	m.put(225, 31, 3, lead(64), lead(0), lead(40))
	h := m.handle(0).noteAll().lay(t)
	shape, _ := h.Shape()
	twin := twinOf(h)
	for range 2 {
		if n, e := full.Need(h); n != 4 || e != api.OK || !same(h, twin) {
			t.Fatalf("Need: %d, %v", n, e)
		}
		if n, e := full.Compact(h); n != 256 || e != api.OK {
			t.Fatalf("Compact: %d, %v", n, e)
		}
		wantRegions(t, h, is{api.HumStart, []int{0}}, is{api.Old, []int{64, 104}}, is{api.Old, []int{128, 171}}, is{api.Old, []int{192, 225}})
		if s, e := h.Shape(); !slices.Equal(s, shape) || e != api.OK {
			t.Fatalf("the shape is %v, %v, not %v", s, e, shape)
		}
		if len(h.Lost([]int{0}))+len(h.Lost([]int{1}))+len(h.Lost([]int{2}))+len(h.Lost([]int{3})) > 0 {
			t.Fatal("something is lost")
		}
		if at, e := h.Offs.First(13); at != 104 || e != api.OK {
			t.Fatalf("Offs.First(13): %d, %v", at, e)
		}
		wantHandles(t, h, 0, 64)
		twin = twinOf(h)
	}
	// As soon as there is room, they are apart.
	m.handles[0] = []uint64{lead(192), lead(0)}
	m.words[41], m.words[42] = 0, 0
	m.words[1], m.words[65], m.words[226] = lead(192), 0, 0
	m.words[3] = 0
	x := compact(t, m.lay(t))
	wantRegions(t, x.h, is{api.HumStart, []int{0}}, is{api.HumStart, []int{64}}, is{api.Old, []int{128, 152}})
}
