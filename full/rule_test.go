package full_test

import (
	"math"
	"slices"
	"testing"

	"gleaner/api"
	"gleaner/full"
	"gleaner/heap"
)

// config is one of a heap of a few regions.
func (d *dice) config() api.Config {
	shift := 6 + d.below(2)
	return api.Config{
		Shift: shift, Regions: 2 + d.below(pick(d, []int{8, 12, 24})), CardShift: 3 + d.below(shift-2), Threads: 1 + d.below(4), Roots: 8, Young: 1,
		Tenure: d.below(8), Queue: d.below(20), Fail: d.below(4) * d.below(4),
	}
}

// soundHeap lays regions of all states with objects and fillers in them that lead to one another, in words that are anything elsewhere.
func (d *dice) soundHeap(c api.Config) *model {
	m := blank(c)
	for at := range m.words {
		if d.oneIn(3) {
			m.words[at] = d.anything(m)
		}
	}
	full := d.below(4)
	for r := 0; r < len(m.states); r++ {
		switch d.below(10) {
		case 0:
		case 1, 2:
			r += d.layBig(m, r) - 1
		case 3:
			if full > 0 {
				continue
			}
			fallthrough
		default:
			m.states[r] = pick(d, []api.RegionState{api.Eden, api.Survivor, api.Old, api.Old})
			d.layRow(m, r, full == 3)
		}
	}
	d.connect(m)
	d.give(m)
	if !d.oneIn(5) {
		m.noteAll()
	}
	return d.strew(m)
}

// layBig lays a big object from a region on, half of them without references, and tells how many regions it takes.
func (d *dice) layBig(m *model, r int) int {
	n := 1 + d.below(min(3, len(m.states)-r))
	m.be(r, api.HumStart)
	for i := 1; i < n; i++ {
		m.be(r+i, api.HumCont)
	}
	size := m.base(n-1) + 1 + d.below(m.region)
	switch {
	case n == 1:
		size = m.region/2 + 1 + d.below(m.region/2)
	case d.oneIn(4):
		size = pick(d, []int{m.base(n-1) + 1, m.base(n)})
	}
	m.put(m.base(r), size, d.below(size)*d.below(2))
	return n
}

// layRow lays objects and fillers from a region's first word on, up to the end, to a Top, or to what a thread's buffer has left.
func (d *dice) layRow(m *model, r int, full bool) {
	at, end := m.base(r), m.base(r+1)
	most := pick(d, []int{2, 12, 30, m.region / 2})
	for at < end && (full || !d.oneIn(12)) {
		size := 1 + d.below(min(end-at, most))
		if d.oneIn(5) {
			m.fill(at, size)
		} else {
			m.put(at, size, d.below(size))
			m.age(at, d.below(8))
		}
		at += size
	}
	m.tops[r] = at
	thread := d.below(len(m.buffers))
	if m.buffers[thread] == (piece{}) && at < end && d.oneIn(2) {
		m.buffers[thread] = piece{m.base(r), at - m.base(r), end}
		m.tops[r] = end
	}
}

// anything is a word of any kind.
func (d *dice) anything(m *model) uint64 {
	switch d.below(6) {
	case 0, 1, 2:
		return lead(d.below(len(m.words) + 2))
	case 3:
		size := 1 + d.below(70)
		return object(size, d.below(size))
	case 4:
		return forward(1+d.below(70), d.below(len(m.words)))
	}
	return math.MaxUint64 - uint64(d.below(100))
}

// connect makes references lead to objects or be nil, some heaps' most be nil, so that much isn't come to; and the data words be anything.
func (d *dice) connect(m *model) {
	objects := m.objects(api.Eden, api.Survivor, api.Old, api.HumStart)
	few := pick(d, []int{1, 2, 5, 20, 50})
	targets := objects
	if len(objects) > 0 && d.oneIn(3) {
		// To a few all lead.
		targets = shuffled(d, objects)[:1+d.below(min(4, len(objects)))]
	}
	for _, at := range objects {
		x, _ := header(m.words[at])
		for k := 1; k < x.Size; k++ {
			m.words[at+k] = d.anything(m)
			if k <= x.Ptrs {
				m.words[at+k] = 0
				if d.oneIn(few) {
					m.words[at+k] = lead(pick(d, targets))
				}
			}
		}
	}
}

// give gives threads handles of some objects, and nil ones.
func (d *dice) give(m *model) {
	objects := m.objects(api.Eden, api.Survivor, api.Old, api.HumStart)
	for i := range m.handles {
		for range d.below(7) {
			w := uint64(0)
			if len(objects) > 0 && !d.oneIn(4) {
				w = lead(pick(d, objects))
			}
			m.handles[i] = append(m.handles[i], w)
		}
	}
}

// strew has cards be dirty, wait and be remembered where nothing asks for it, words be marked, and Tams lie anywhere.
func (d *dice) strew(m *model) *model {
	cards := len(m.known)
	for range d.below(cards) {
		m.dirty = append(m.dirty, d.below(cards))
		m.pushed = append(m.pushed, [2]int{d.below(m.c.Threads), d.below(cards)})
	}
	for range d.below(2) * d.below(3*cards) {
		m.sets = append(m.sets, [2]int{d.below(len(m.states)), d.below(cards)})
	}
	for at := range m.words {
		if d.oneIn(5) {
			m.marks = append(m.marks, at)
		}
	}
	for r, s := range m.states {
		if s == api.Eden || s == api.Survivor || s == api.Old {
			m.tams[r] += d.below(m.region + 1)
		}
	}
	for card := range m.known {
		if d.oneIn(20) {
			m.known[card] = d.below(card*m.card + 1)
		}
	}
	return m
}

// count counts what came of a compaction.
func (x *trial) count(count map[string]int) {
	count["compacted"]++
	count["left"] += len(x.left)
	count["big"] += len(x.big)
	for _, at := range x.left {
		if x.now[at] != at {
			count["moved"]++
		}
		if x.now[at] > at {
			count["up"]++
		}
	}
	for _, at := range x.big {
		if x.now[at] != at && x.now[at]+x.size(at) > at {
			count["over itself"]++
		}
	}
	switch {
	case len(x.left) == 0:
		count["nothing"]++
	case x.regions == len(x.m.states):
		count["full"]++
	}
	if len(x.left) == len(x.m.objects(api.Eden, api.Survivor, api.Old, api.HumStart)) {
		count["all"]++
	}
	for r := range x.m.states {
		for source := range x.m.states {
			count[[]string{"absent", "sparse", "fine", "coarse"}[x.h.Sets.Way(r, source)]]++
		}
	}
}

// P20.1 to P20.3: heaps by a rule, compacted again and again: what the chapter says comes of each.
func TestHeapsByARule(t *testing.T) {
	d := dice(20)
	count := map[string]int{}
	for range 2500 {
		h := d.soundHeap(d.config()).lay(t)
		for range 1 + d.below(3) {
			x := compact(t, h)
			x.count(count)
			d.live(h)
		}
	}
	for what, least := range map[string]int{"compacted": 4500, "left": 50000, "big": 2000, "moved": 20000, "up": 2000, "over itself": 100, "nothing": 100, "full": 100, "all": 1000, "sparse": 2000, "fine": 1000, "coarse": 50} {
		if count[what] < least {
			t.Errorf("of %s there are but %d: %v", what, count[what], count)
		}
	}
}

// live makes a few new objects in Eden regions that lead to what handles lead to, and has some handles go, at rest.
func (d *dice) live(h *heap.Heap) {
	for range d.below(3) {
		r, e := h.Regions.Claim(api.Eden)
		if e != api.OK {
			break
		}
		for range d.below(6) {
			size := 2 + d.below(10)
			at, e := h.Regions.Bump(r, size)
			if e != api.OK {
				break
			}
			h.Arena.Store(at, object(size, size-1))
			for k := range size - 1 {
				h.Arena.Store(at+1+k, 0)
			}
			s := pick(d, h.Roots)
			for i, to := range s.List() {
				if i < size-1 {
					h.Arena.Store(at+1+i, uint64(to))
				}
			}
			if s.Push(api.Ref(lead(at))) != api.OK {
				s.Pop()
			}
		}
	}
	for _, s := range h.Roots {
		if d.oneIn(2) {
			s.Pop()
		}
	}
}

// P20.1, P20.2: heaps with which something is amiss: an error, and nothing has changed; or nothing of it matters.
func TestBrokenHeapsByARule(t *testing.T) {
	d := dice(91)
	count := map[api.Errno]int{}
	for range 3000 {
		m := d.soundHeap(d.config())
		h := m.lay(t)
		for range 1 + d.below(3) {
			h.Arena.Store(d.below(h.Geom.Words), d.anything(m))
		}
		if d.oneIn(3) {
			h.Regions.SetTop(d.below(h.Geom.Regions), d.below(h.Geom.Words))
		}
		if d.oneIn(3) {
			h.Regions.Release(d.below(h.Geom.Regions))
		}
		if d.oneIn(3) {
			h.Roots[0].Push(api.Ref(d.anything(m)))
		}
		e := h.Check()
		count[e]++
		if e != api.OK {
			wantRefused(t, h, e)
			continue
		}
		// A word may have made an object be of any Size, so that big ones stand with others.
		shape, _ := h.Shape()
		twin := twinOf(h)
		n, e := full.Need(h)
		if e != api.OK || !same(h, twin) {
			t.Fatalf("Need: %v", e)
		}
		if _, e := full.Compact(h); e != api.OK {
			t.Fatalf("Compact: %v", e)
		}
		if s, e := h.Shape(); !slices.Equal(s, shape) || e != api.OK {
			t.Fatalf("the shape is %v, %v, not %v", s, e, shape)
		}
		if free := len(h.Regions.List(api.Free)); free != h.Geom.Regions-n {
			t.Fatalf("%d of %d regions are free, %d are needed", free, h.Geom.Regions, n)
		}
	}
	if count[api.OK] < 300 || count[api.ErrBroken] < 1000 {
		t.Error(count)
	}
}

// Rows that no layer makes, with big objects in them, by a rule: there is always room for all, nothing is lost, and where all big ones can be apart they are.
func TestBigOnesAmongOthersByARule(t *testing.T) {
	d := dice(57)
	apart, shared := 0, 0
	for range 3000 {
		m := blank(small(2 + d.below(6)))
		m.c.Threads, m.buffers, m.handles = 3, make([]piece, 3), make([][]uint64, 3)
		for r := range m.states {
			if d.oneIn(7) {
				continue
			}
			m.states[r] = pick(&d, []api.RegionState{api.Eden, api.Survivor, api.Old})
			if d.oneIn(5) {
				m.states[r] = api.HumStart
				m.put(m.base(r), 1+d.below(64), 0)
				continue
			}
			at := m.base(r)
			for at < m.base(r+1) && !d.oneIn(6) {
				size := 1 + d.below(m.base(r+1)-at)
				m.put(at, size, d.below(size))
				at += size
			}
		}
		d.connect(m)
		d.give(m)
		h := m.noteAll().lay(t)
		x := &trial{h: h, m: m, now: map[int]int{}}
		x.find()
		x.place()
		if x.regions <= len(m.states) {
			compact(t, h)
			apart++
			continue
		}
		shared++
		shape, _ := h.Shape()
		n, _ := full.Need(h)
		words, e := full.Compact(h)
		if s, f := h.Shape(); words != x.words || n > len(m.states) || e != api.OK || !slices.Equal(s, shape) || f != api.OK {
			t.Fatalf("%d words in %d regions, %v, not %d; the shape is %v, %v, not %v", words, n, e, x.words, s, f, shape)
		}
		objects := 0
		for r := range m.states {
			row, _ := h.Row(r)
			objects += len(row)
			if used := h.Regions.State(r) != api.Free; used != (r < n) || len(h.Lost([]int{r})) > 0 {
				t.Fatalf("region %d is %d, %d are needed", r, h.Regions.State(r), n)
			}
		}
		if objects != len(x.left) {
			t.Fatalf("%d objects, not %d", objects, len(x.left))
		}
	}
	if apart < 1000 || shared < 100 {
		t.Errorf("apart %d, shared %d", apart, shared)
	}
}
