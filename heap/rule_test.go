package heap_test

import (
	"math"
	"slices"
	"testing"

	"gleaner/api"
	"gleaner/graph"
	"gleaner/heap"
)

// configuration is one of a heap of few words.
func (d *dice) configuration() api.Config {
	shift := 6 + d.below(3)
	c := api.Config{Shift: shift, Regions: 2 + d.below(9), CardShift: 3 + d.below(shift-2), Threads: 1 + d.below(4), Roots: 1 + d.below(6), Young: 1}
	return c
}

// soundHeap lays regions of all states with objects and fillers in them, which lead to one another, in words that are anything elsewhere.
func (d *dice) soundHeap() *model {
	m := blank(d.configuration())
	for at := range m.words {
		if d.oneIn(3) {
			m.words[at] = d.anything(m)
		}
	}
	for r := 0; r < len(m.states); r++ {
		switch d.below(8) {
		case 0:
		case 1, 2:
			r += d.layBig(m, r) - 1
		default:
			m.states[r] = filled[d.below(3)]
			d.layRow(m, r)
		}
	}
	d.connect(m)
	d.remember(m)
	return m
}

// layBig lays a big object from a region on, and tells how many it takes.
func (d *dice) layBig(m *model, r int) int {
	n := 1 + d.below(min(3, len(m.states)-r))
	m.be(r, api.HumStart)
	for i := 1; i < n; i++ {
		m.be(r+i, api.HumCont)
	}
	size := m.base(n-1) + 1 + d.below(m.region)
	m.put(m.base(r), size, d.below(size))
	return n
}

// layRow lays objects and fillers from a region's first word on, up to the end, to a Top, or to what a thread's buffer has left.
func (d *dice) layRow(m *model, r int) {
	at, end := m.base(r), m.base(r+1)
	for at < end && !d.oneIn(12) {
		size := 1 + d.below(min(end-at, 1+d.below(20)))
		if d.oneIn(5) {
			m.fill(at, size)
		} else {
			m.put(at, size, d.below(size))
			m.words[at] = aged(size, int(m.words[at]/8388608), d.below(8))
		}
		at += size
	}
	thread := d.below(len(m.buffers))
	switch {
	case m.buffers[thread] != piece{} || d.oneIn(2):
		m.tops[r] = at
	case at == end || d.oneIn(3):
		// All is taken of a buffer that ends where the row does.
		m.tops[r] = at
		m.buffers[thread] = piece{m.base(r), at - m.base(r), at}
	default:
		from := m.base(r) + d.below(at-m.base(r)+1)
		m.buffers[thread] = piece{from, at - from, end}
		m.tops[r] = end
	}
}

// anything is a word of any kind.
func (d *dice) anything(m *model) uint64 {
	switch d.below(6) {
	case 0:
		return letters[d.below(len(letters))]
	case 1:
		return lead(d.below(len(m.words) + 2))
	case 2:
		size := 1 + d.below(70)
		return object(size, d.below(size))
	case 3:
		return filler(1 + d.below(70))
	case 4:
		return 0
	}
	return math.MaxUint64 - uint64(d.below(100))
}

// one is a reference to one of the objects, or nil.
func (d *dice) one(objects []int) uint64 {
	if len(objects) == 0 || d.oneIn(4) {
		return 0
	}
	return lead(objects[d.below(len(objects))])
}

// connect makes all references and handles lead to objects, and the data words be anything.
func (d *dice) connect(m *model) {
	objects, _ := m.objects()
	for _, at := range objects {
		ptrs, data := m.fields(at)
		for i := range ptrs {
			ptrs[i] = d.one(objects)
		}
		for i := range data {
			data[i] = d.anything(m)
		}
	}
	for thread := range m.handles {
		for range d.below(m.c.Roots + 1) {
			m.handles[thread] = append(m.handles[thread], api.Ref(d.one(objects)))
		}
	}
}

// remember adds some cards to sets, at most four of each region to each home.
func (d *dice) remember(m *model) {
	perRegion := m.region / m.card
	for home := range m.states {
		for source := range m.states {
			for range d.below(5) {
				if source != home {
					m.known = append(m.known, [2]int{home, source*perRegion + d.below(perRegion)})
				}
			}
		}
	}
}

// homes are some numbers of regions, some of them twice, some of none.
func (d *dice) homes(m *model) []int {
	var list []int
	for range d.below(6) {
		list = append(list, d.below(len(m.states)+2)-1)
	}
	return list
}

// breach changes something by which a heap may not be sound any more.
func (d *dice) breach(m *model) {
	r := d.below(len(m.states))
	switch d.below(6) {
	case 0, 1:
		m.words[d.below(len(m.words))] = d.anything(m)
	case 2:
		m.words[m.base(r)] = d.anything(m)
	case 3:
		if m.states[r] != api.HumStart && m.states[r] != api.HumCont && m.states[r] != api.Free {
			m.tops[r] = m.base(r) + d.below(m.region+1)
		}
	case 4:
		if m.states[r] != api.HumCont && (r+1 == len(m.states) || m.states[r+1] != api.HumCont) {
			m.be(r, filled[d.below(3)])
		}
	default:
		thread := d.below(len(m.handles))
		if n := len(m.handles[thread]); n > 0 {
			m.handles[thread][d.below(n)] = api.Ref(d.anything(m))
		}
	}
}

// Heaps by a rule, sound ones and such as something is amiss with: each call against the model.
func TestHeapsByARule(t *testing.T) {
	d := dice(14)
	sound, amiss := 0, 0
	for range 700 {
		m := d.soundHeap()
		if m.check() != api.OK {
			t.Fatalf("the rule: %+v", m)
		}
		for range 4 {
			h, twin := m.lay(t), m.lay(t)
			m.wantAll(t, h)
			for range 6 {
				m.wantLost(t, h, d.homes(m)...)
			}
			for range 40 {
				m.wantObject(t, h, api.Ref(d.below(len(m.words)+3)))
			}
			wantTwin(t, h, twin, "asking")
			if m.check() == api.OK {
				sound++
			} else {
				amiss++
			}
			d.breach(m)
		}
	}
	if sound < 1000 || amiss < 500 {
		t.Errorf("%d sound ones, %d others", sound, amiss)
	}
}

// Heaps by a rule that are retired and freed region by region, against what the promises say of each table.
func TestRetireAndFreeByARule(t *testing.T) {
	d := dice(5)
	for range 200 {
		m := d.soundHeap()
		h := m.lay(t)
		for r := range m.states {
			m.tops[r] = h.Regions.Top(r)
			if m.states[r] != api.Free && m.states[r] != api.HumStart && m.states[r] != api.HumCont {
				m.tops[r] = m.end(r)
			}
		}
		clear(m.buffers)
		h.Retire()
		for r, top := range m.tops {
			if h.Regions.Top(r) != top {
				t.Fatalf("Retire: Top of %d: %d, not %d", r, h.Regions.Top(r), top)
			}
		}
		m.wantAll(t, h)
		d.free(t, m, h)
	}
}

// free frees regions in any order, and asks for all tables each time.
func (d *dice) free(t *testing.T, m *model, h *heap.Heap) {
	t.Helper()
	perRegion := m.region / m.card
	for card := range h.Geom.Cards {
		if d.oneIn(2) {
			h.Cards.Dirty(card)
		}
		if d.oneIn(2) {
			h.Offs.Put(card*m.card, m.card)
		}
	}
	for at := range m.words {
		if d.oneIn(3) {
			h.Marks.Put(at)
		}
	}
	for range len(m.states) + 3 {
		r := d.below(len(m.states))
		x := tell(h)
		want := api.OK
		if m.states[r] == api.Free {
			want = api.ErrNone
		} else {
			x = x.freed(r, m.region, perRegion)
		}
		m.states[r], m.tops[r] = api.Free, m.base(r)
		if e := h.Free(r); e != want {
			t.Fatalf("Free(%d): %v, not %v", r, e, want)
		}
		if y := tell(h); !y.same(x) {
			t.Fatalf("Free(%d): %+v, not %+v", r, y, x)
		}
		m.known = slices.DeleteFunc(m.known, func(k [2]int) bool { return k[0] == r || k[1]/perRegion == r })
		m.wantAll(t, h)
	}
}

// Graphs that operations make, and heaps with the same objects: their shapes are the same.
func TestShapeOfAGraph(t *testing.T) {
	d := dice(13)
	for range 300 {
		threads := 1 + d.below(3)
		c := api.Config{Shift: 6, Regions: 8, CardShift: 3, Threads: threads, Roots: 64, Young: 1}
		g, _ := graph.New(threads, 64, 448)
		m := blank(c)
		var places []int
		for n := 1 + d.below(30); len(places) < n; {
			size := 2 + d.below(13)
			r := len(places) / 4
			m.states[r] = filled[r%3]
			at := m.tops[r]
			places = append(places, at)
			ptrs := d.below(size)
			m.put(at, size, ptrs)
			g.Do(0, api.Op{Kind: api.OpAlloc, A: ptrs, B: size - 1 - ptrs})
		}
		for i, at := range places {
			ptrs, data := m.fields(at)
			for field := range ptrs {
				other := d.below(len(places))
				ptrs[field] = lead(places[other])
				g.Do(0, api.Op{Kind: api.OpStore, A: i, B: field, C: other})
			}
			for field := range data {
				data[field] = d.anything(m)
				g.Do(0, api.Op{Kind: api.OpWrite, A: i, B: field, V: data[field]})
			}
		}
		for i, at := range places {
			if thread := d.below(threads); thread > 0 {
				m.handles[thread] = append(m.handles[thread], api.Ref(lead(at)))
				g.Do(0, api.Op{Kind: api.OpSend, A: i, B: thread})
			}
		}
		stay := d.below(4)
		for i := len(places); i > stay; i-- {
			g.Do(0, api.Op{Kind: api.OpPop})
		}
		for _, at := range places[:min(stay, len(places))] {
			m.handles[0] = append(m.handles[0], api.Ref(lead(at)))
		}
		h := m.lay(t)
		if s, e := h.Shape(); !slices.Equal(s, g.Shape()) || e != api.OK {
			t.Fatalf("Shape: %v, %v, not %v", s, e, g.Shape())
		}
	}
}
