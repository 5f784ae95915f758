package mark_test

import (
	"math"
	"testing"

	"gleaner/api"
)

// soundHeap lays regions of all states with objects and fillers in them that lead to one another, in words that are anything elsewhere.
func (d *dice) soundHeap() *model {
	shift := 6 + d.below(3)
	m := blank(api.Config{Shift: shift, Regions: 2 + d.below(9), CardShift: 3 + d.below(shift-2), Threads: 1 + d.below(4), Roots: 8, Young: 1, Queue: d.below(20), Stack: d.below(5) * d.below(5)})
	for at := range m.words {
		if d.oneIn(3) {
			m.words[at] = d.anything(m)
		}
	}
	for r := 0; r < len(m.states); r++ {
		switch d.below(10) {
		case 0:
		case 1, 2:
			r += d.layBig(m, r) - 1
		default:
			m.states[r] = pick(d, []api.RegionState{api.Eden, api.Survivor, api.Old, api.Old, api.Old, api.Old, api.Old})
			d.layRow(m, r)
		}
	}
	d.connect(m)
	return d.give(m.strew())
}

// layBig lays a big object from a region on, and tells how many it takes.
func (d *dice) layBig(m *model, r int) int {
	n := 1 + d.below(min(3, len(m.states)-r))
	m.be(r, api.HumStart)
	for i := 1; i < n; i++ {
		m.be(r+i, api.HumCont)
	}
	size := m.base(n-1) + 1 + d.below(m.region)
	m.put(m.base(r), size, d.below(size))
	return n
}

// layRow lays objects and fillers from a region's first word on, up to the end, to a Top, or to what a thread's buffer has left.
func (d *dice) layRow(m *model, r int) {
	at, end := m.base(r), m.base(r+1)
	for at < end && !d.oneIn(15) {
		size := 1 + d.below(min(end-at, 1+d.below(30)))
		if d.oneIn(5) {
			m.fill(at, size)
		} else {
			ptrs := d.below(size)
			m.put(at, size, ptrs)
			m.words[at] = aged(size, ptrs, d.below(8))
		}
		at += size
	}
	m.tops[r] = at
	thread := d.below(len(m.buffers))
	if m.states[r] == api.Eden && m.buffers[thread] == (piece{}) && at < end && d.oneIn(2) {
		m.buffers[thread] = piece{m.base(r), at - m.base(r), end}
		m.tops[r] = end
	}
}

// anything is a word of any kind.
func (d *dice) anything(m *model) uint64 {
	switch d.below(6) {
	case 0:
		return pick(d, letters)
	case 1, 2:
		return lead(d.below(len(m.words) + 2))
	case 3:
		size := 1 + d.below(70)
		return object(size, d.below(size))
	case 4:
		return filler(1 + d.below(70))
	}
	return math.MaxUint64 - uint64(d.below(100))
}

// connect makes references lead to objects or be nil, most be nil, so that much can't be come to; and the data words be anything.
func (d *dice) connect(m *model) {
	objects := m.objects(api.Eden, api.Survivor, api.Old, api.HumStart)
	for _, at := range objects {
		x, _ := header(m.words[at])
		few := pick(d, []int{1, 3, 10})
		for k := 1; k < x.Size; k++ {
			m.words[at+k] = d.anything(m)
			if k <= x.Ptrs {
				m.words[at+k] = 0
				if d.oneIn(few) {
					m.words[at+k] = lead(pick(d, objects))
				}
			}
		}
	}
}

// give gives threads handles of some objects, and nil ones.
func (d *dice) give(m *model) *model {
	objects := m.objects(api.Eden, api.Survivor, api.Old, api.HumStart)
	for i := range m.handles {
		for range d.below(4) {
			w := uint64(0)
			if len(objects) > 0 && !d.oneIn(4) {
				w = lead(pick(d, objects))
			}
			m.handles[i] = append(m.handles[i], w)
		}
	}
	return m
}

// breach changes something by which a heap may not be sound any more, with a cycle going on or not.
func (x *watch) breach(d *dice) {
	m := read(x.twin)
	switch r := d.below(len(m.states)); d.below(4) {
	case 0, 1:
		x.store(d.below(len(m.words)), d.anything(m))
	case 2:
		if row := m.row(r); len(row) > 0 {
			x.store(pick(d, row), d.anything(m))
		}
	default:
		x.store(m.base(r), pick(d, letters))
	}
}

// calls does so many calls by a rule.
func (x *watch) calls(t *testing.T, d *dice, n int) {
	t.Helper()
	m := read(x.twin)
	for range n {
		switch d.below(25) {
		case 0:
			x.begin(t)
		case 1:
			x.finish(t)
		case 2:
			x.clean(t)
		case 3:
			x.abort(t)
		case 4, 5, 6:
			var l []uint64
			for range d.below(5) {
				l = append(l, d.anything(m))
			}
			x.log(t, l...)
		default:
			x.step(t, d.below(len(x.at)+1)-1)
		}
	}
}

// Rows of calls of one cycle, of heaps by a rule: each comes to what the chapter says, also where anything is logged.
func TestCallsByARule(t *testing.T) {
	d := dice(170)
	for n := range 250 {
		x := newWatch(t, d.soundHeap(), n%9)
		x.calls(t, &d, 60)
		x.abort(t)
		if e := x.h.Check(); e != api.OK {
			t.Fatalf("what was sound isn't any more: %v", e)
		}
	}
}

// Heaps with which something is amiss, ahead of a cycle and while it goes on.
func TestBrokenHeapsByARule(t *testing.T) {
	d := dice(71)
	count := map[api.Errno]int{}
	for n := range 250 {
		x := newWatch(t, d.soundHeap(), n%4)
		for range 6 {
			if n%2 == 0 {
				x.breach(&d)
			}
			count[x.begin(t)]++
			for range d.below(3) {
				x.breach(&d)
			}
			x.calls(t, &d, 10)
		}
	}
	if count[api.OK] < 200 || count[api.ErrBroken] < 100 || count[api.ErrShape] < 100 {
		t.Error(count)
	}
}
