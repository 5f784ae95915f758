package evac_test

import (
	"math"
	"slices"
	"testing"

	"gleaner/api"
	"gleaner/evac"
	"gleaner/heap"
	"gleaner/refine"
)

// config is one of a heap of a few regions.
func (d *dice) config() api.Config {
	shift := 6 + d.below(2)
	return api.Config{
		Shift: shift, Regions: 2 + d.below(12), CardShift: 3 + d.below(shift-2), Threads: 1 + d.below(4), Roots: 8, Young: 1,
		Tenure: d.below(8), Queue: d.below(20), Fail: d.below(4) * d.below(4),
	}
}

// soundHeap lays regions of all states with objects and fillers in them that lead to one another, in words that are anything elsewhere.
func (d *dice) soundHeap(c api.Config) *model {
	m := blank(c)
	for at := range m.words {
		if d.oneIn(3) {
			m.words[at] = d.anything(m)
		}
	}
	full := d.below(4)
	for r := 0; r < len(m.states); r++ {
		switch d.below(10) {
		case 0:
		case 1:
			r += d.layBig(m, r) - 1
		case 2:
			if full > 0 {
				continue
			}
			fallthrough
		default:
			m.states[r] = pick(d, []api.RegionState{api.Eden, api.Eden, api.Survivor, api.Old, api.Old})
			d.layRow(m, r, full == 3)
		}
	}
	d.connect(m)
	d.give(m)
	if !d.oneIn(5) {
		m.noteAll()
	}
	return d.strew(m)
}

// layBig lays a big object from a region on, half of them without references, and tells how many regions it takes.
func (d *dice) layBig(m *model, r int) int {
	n := 1 + d.below(min(3, len(m.states)-r))
	m.be(r, api.HumStart)
	for i := 1; i < n; i++ {
		m.be(r+i, api.HumCont)
	}
	size := m.base(n-1) + 1 + d.below(m.region)
	if n == 1 {
		size = m.region/2 + 1 + d.below(m.region/2)
	}
	m.put(m.base(r), size, d.below(size)*d.below(2))
	return n
}

// layRow lays objects and fillers from a region's first word on, up to the end, to a Top, or to what a thread's buffer has left.
func (d *dice) layRow(m *model, r int, full bool) {
	at, end := m.base(r), m.base(r+1)
	for at < end && (full || !d.oneIn(12)) {
		size := 1 + d.below(min(end-at, 1+d.below(30)))
		if d.oneIn(5) {
			m.fill(at, size)
		} else {
			m.put(at, size, d.below(size))
			m.age(at, d.below(8))
		}
		at += size
	}
	m.tops[r] = at
	thread := d.below(len(m.buffers))
	if m.buffers[thread] == (piece{}) && at < end && d.oneIn(2) {
		m.buffers[thread] = piece{m.base(r), at - m.base(r), end}
		m.tops[r] = end
	}
}

// anything is a word of any kind.
func (d *dice) anything(m *model) uint64 {
	switch d.below(6) {
	case 0, 1, 2:
		return lead(d.below(len(m.words) + 2))
	case 3:
		size := 1 + d.below(70)
		return object(size, d.below(size))
	case 4:
		return forward(1+d.below(70), d.below(len(m.words)))
	}
	return math.MaxUint64 - uint64(d.below(100))
}

// connect makes references lead to objects or be nil, some heaps' most be nil, so that much isn't reached; and the data words be anything.
func (d *dice) connect(m *model) {
	objects := m.objects(api.Eden, api.Survivor, api.Old, api.HumStart)
	few := pick(d, []int{2, 5, 20, 50})
	for _, at := range objects {
		x, _ := header(m.words[at])
		for k := 1; k < x.Size; k++ {
			m.words[at+k] = d.anything(m)
			if k <= x.Ptrs {
				m.words[at+k] = 0
				if d.oneIn(few) {
					m.words[at+k] = lead(pick(d, objects))
				}
			}
		}
	}
}

// give gives threads handles of some objects, and nil ones.
func (d *dice) give(m *model) {
	objects := m.objects(api.Eden, api.Survivor, api.Old, api.HumStart)
	for i := range m.handles {
		for range d.below(4) {
			w := uint64(0)
			if len(objects) > 0 && !d.oneIn(4) {
				w = lead(pick(d, objects))
			}
			m.handles[i] = append(m.handles[i], w)
		}
	}
}

// strew has cards be dirty, wait and be remembered where nothing asks for it, and words be marked; and of half the heaps each reference that must be is remembered, or its card waits.
func (d *dice) strew(m *model) *model {
	cards := len(m.known)
	for range d.below(cards) {
		m.dirty = append(m.dirty, d.below(cards))
		m.pushed = append(m.pushed, [2]int{d.below(m.c.Threads), d.below(cards)})
	}
	for range d.below(2) * d.below(cards) {
		m.sets = append(m.sets, [2]int{d.below(len(m.states)), d.below(cards)})
	}
	for at := range m.words {
		if d.oneIn(5) {
			m.marks = append(m.marks, at)
		}
	}
	for r := range m.tams {
		if m.states[r] == api.Old {
			m.tams[r] += d.below(m.tops[r] - m.tams[r] + 1)
		}
	}
	all := d.oneIn(2)
	for _, field := range m.outward() {
		if all || d.oneIn(2) {
			m.remember(m.target(m.words[field])/m.region, field)
		}
	}
	return m
}

// homes are those of a heap that must be, and some of the old ones where no marking goes on, in any order.
func (d *dice) homes(m *model) ([]int, bool) {
	homes, marking := m.young(), d.oneIn(2)
	if !marking {
		few := 1 + d.below(3)
		for _, r := range m.list(api.Old) {
			if d.oneIn(few) {
				homes = append(homes, r)
			}
		}
	}
	return shuffled(d, homes), marking
}

// Heaps by a rule, each paused again and again: what the chapter says comes of each.
func TestHeapsByARule(t *testing.T) {
	d := dice(19)
	count := map[string]int{}
	for range 2500 {
		h := d.soundHeap(d.config()).lay(t)
		for range 1 + d.below(3) {
			homes, marking := d.homes(read(h))
			if h.Check() != api.OK {
				// References that were not remembered lead nowhere now.
				if r, e := evac.Pause(h, homes, marking); e != api.ErrBroken || r.Moved > 0 {
					t.Fatalf("Pause of what isn't sound: %v, %v", r, e)
				}
				count["not sound"]++
				break
			}
			x := pause(t, h, homes, marking)
			x.count(count)
			d.live(h)
		}
	}
	for what, least := range map[string]int{"moved": 8000, "failed": 5000, "full": 2000, "freed": 5000, "kept": 3000, "big": 150, "all kept": 500, "lost": 200, "nothing lost": 3000, "not sound": 100, "claimed": 1500} {
		if count[what] < least {
			t.Errorf("of %s there are but %d: %v", what, count[what], count)
		}
	}
}

// count counts what came of a pause.
func (x *trial) count(count map[string]int) {
	count["moved"] += x.report.Moved
	count["failed"] += x.report.Failed
	count["freed"] += len(x.report.Freed)
	count["kept"] += len(x.report.Kept)
	count["big"] += len(x.report.Big)
	if x.m.c.Fail == 0 {
		count["full"] += x.report.Failed
	}
	if x.report.Failed > 0 && x.report.Moved == 0 {
		count["all kept"]++
	}
	if x.h.Check() == api.OK {
		count["nothing lost"]++
	} else {
		count["lost"]++
	}
	for r := range x.moved {
		if x.m.states[r] == api.Free {
			count["claimed"]++
		}
	}
}

// live makes a few new objects in Eden regions that lead to what handles lead to, and has some handles go, at rest.
func (d *dice) live(h *heap.Heap) {
	for range d.below(3) {
		r, e := h.Regions.Claim(api.Eden)
		if e != api.OK {
			break
		}
		for range d.below(6) {
			size := 2 + d.below(10)
			at, e := h.Regions.Bump(r, size)
			if e != api.OK {
				break
			}
			h.Arena.Store(at, object(size, size-1))
			for k := range size - 1 {
				h.Arena.Store(at+1+k, 0)
			}
			s := pick(d, h.Roots)
			for i, to := range s.List() {
				if i < size-1 {
					h.Arena.Store(at+1+i, uint64(to))
				}
			}
			if s.Push(api.Ref(lead(at))) != api.OK {
				s.Pop()
			}
		}
	}
	for _, s := range h.Roots {
		if d.oneIn(2) {
			s.Pop()
		}
	}
}

// Heaps with which something is amiss: an error, and nothing has changed; or nothing of it matters.
func TestBrokenHeapsByARule(t *testing.T) {
	d := dice(91)
	count, headers := map[api.Errno]int{}, 0
	for range 3000 {
		m := d.soundHeap(d.config())
		m.remember(0, len(m.words)-1)
		h := m.lay(t)
		for range 1 + d.below(3) {
			h.Arena.Store(d.below(h.Geom.Words), d.anything(m))
		}
		if d.oneIn(2) {
			h = m.lay(t)
			for range 8 {
				at := d.below(h.Geom.Words)
				h.Offs.Put(at, 1+d.below(h.Geom.Words-at))
			}
		}
		homes, marking := d.homes(m)
		if d.oneIn(4) {
			homes = append(homes, d.below(len(m.states)))
		}
		twin := twinOf(h)
		r, e := evac.Pause(h, homes, marking)
		count[e]++
		if want := refused(twinOf(twin), homes, marking); e != want {
			t.Fatalf("Pause of %v, marking %v: %v, not %v", homes, marking, e, want)
		}
		if e != api.OK {
			wantNothing(t, r, h, twin)
		}
		if e == api.ErrBroken && twin.Check() == api.OK {
			headers++
		}
	}
	if count[api.OK] < 200 || count[api.ErrBroken] < 300 || count[api.ErrShape] < 100 || headers < 100 {
		t.Error(count, headers)
	}
}

// refused is the error that a pause must answer; the heap isn't worth anything behind it.
func refused(h *heap.Heap, homes []int, marking bool) api.Errno {
	seen := map[int]bool{}
	for _, r := range homes {
		s := h.Regions.State(r)
		if seen[r] || s != api.Eden && s != api.Survivor && s != api.Old || marking && s == api.Old {
			return api.ErrShape
		}
		seen[r] = true
	}
	for r := range h.Geom.Regions {
		if s := h.Regions.State(r); (s == api.Eden || s == api.Survivor) && !seen[r] {
			return api.ErrShape
		}
	}
	if h.Check() != api.OK {
		return api.ErrBroken
	}
	// What is needed of a card is what refine would need of it, if it weren't in a home.
	for _, home := range homes {
		for _, card := range h.Sets.Cards(home) {
			if !seen[card*h.Geom.CardWords/h.Geom.RegionWords] && refine.Card(twinOf(h), card) != api.OK {
				return api.ErrBroken
			}
		}
	}
	return refine.Drain(h, nil)
}

// wantNothing asks for a refused pause that answers nothing else, and changed nothing.
func wantNothing(t *testing.T, r evac.Report, h, twin *heap.Heap) {
	t.Helper()
	if r.Moved != 0 || r.Failed != 0 || len(r.Freed)+len(r.Kept)+len(r.Big) > 0 {
		t.Fatalf("a refused pause answers %+v", r)
	}
	if !same(h, twin) {
		t.Fatalf("a refused pause changed something: there wait %v, not %v", lists(h), lists(twin))
	}
	if !slices.Equal(h.Regions.List(api.Free), twin.Regions.List(api.Free)) {
		t.Fatal("a refused pause changed a region")
	}
}
