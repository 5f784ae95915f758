package full_test

import (
	"slices"
	"testing"

	"gleaner/api"
	"gleaner/full"
	"gleaner/heap"
)

// P20.1: objects in regions of each size, so that words and cards of each Shift are told.
func TestEachShift(t *testing.T) {
	for shift := 6; shift <= 14; shift++ {
		for cards := 3; cards <= shift; cards++ {
			m := blank(api.Config{Shift: shift, Regions: 5, CardShift: cards, Threads: 2, Roots: 4, Young: 1})
			half := m.region / 2
			m.be(0, api.Eden, api.Old, api.HumStart, api.HumCont, api.Survivor)
			m.put(0, half, half-1, lead(m.region))
			m.put(half, half, 3, lead(2*m.region))
			m.put(m.region, half-1, half-2)
			m.put(m.region+half-1, half, half-1, lead(4*m.region), lead(0))
			m.words[2*m.region-2] = lead(m.region)
			m.put(2*m.region, 2*m.region-1, m.region+half)
			m.words[3*m.region+3] = lead(4 * m.region)
			m.put(4*m.region, 3, 2, lead(2*m.region))
			x := compact(t, m.handle(m.region+half-1).noteAll().lay(t))
			wantRegions(t, x.h, is{api.HumStart, []int{0}}, is{api.HumCont, nil}, is{api.Old, []int{2 * m.region, 2*m.region + half}}, is{api.Old, []int{3 * m.region, 3*m.region + half}})
		}
	}
}

// P20.1: the greatest object, over all regions but one, ahead of which one of a word stands.
func TestGreatestObject(t *testing.T) {
	for _, c := range []api.Config{
		{Shift: 20, Regions: 4, CardShift: 20, Threads: 1, Roots: 2, Young: 1},
		{Shift: 18, Regions: 5, CardShift: 9, Threads: 1, Roots: 2, Young: 1},
		{Shift: 6, Regions: 16385, CardShift: 3, Threads: 1, Roots: 2, Young: 1},
	} {
		m := blank(c)
		size := 1 << 20
		m.be(0, api.Old)
		m.put(0, 1, 0)
		m.be(1, api.HumStart)
		for r := 2; m.base(r) < m.region+size; r++ {
			m.be(r, api.HumCont)
		}
		m.put(m.region, size, size-1, lead(0), lead(m.region))
		m.words[m.region+size-1] = lead(m.region)
		h := m.handle(m.region).lay(t)
		span := size / m.region
		if n, e := full.Need(h); n != span+1 || e != api.OK {
			t.Fatalf("Need: %d, %v", n, e)
		}
		if n, e := full.Compact(h); n != size+1 || e != api.OK {
			t.Fatalf("Compact: %d, %v", n, e)
		}
		for at, want := range map[int]uint64{0: object(size, size-1), 1: lead(size), 2: lead(0), 3: 0, size - 1: lead(0), size: object(1, 0)} {
			if w, _ := h.Arena.Load(at); w != want {
				t.Errorf("the word %d: %d, not %d", at, w, want)
			}
		}
		if h.Check() != api.OK || h.Regions.State(0) != api.HumStart || h.Regions.State(span) != api.Old || len(h.Regions.List(api.HumCont)) != span-1 {
			t.Errorf("Shift %d: it isn't what it must be", c.Shift)
		}
		last := (size - 1) / m.card
		if span > 1 && !slices.Equal(h.Sets.Cards(0), []int{last}) || !slices.Equal(h.Sets.Cards(span), []int{0}) {
			t.Errorf("Shift %d: remembered are %v and %v", c.Shift, h.Sets.Cards(0), h.Sets.Cards(span))
		}
		if at, e := h.Offs.First(last); at != 0 || e != api.OK {
			t.Errorf("Offs.First(%d): %d, %v", last, at, e)
		}
	}
}

// P20.1, P20.3: as many words as may be, in regions of each Shift, with small objects that lead to one another in a chain against their order, every third of them left: it ends soon.
func TestTheMostObjects(t *testing.T) {
	for _, shift := range []int{6, 20} {
		m := blank(api.Config{Shift: shift, Regions: min(1<<22>>shift, 65536), CardShift: 6, Threads: 1, Roots: 2, Young: 1})
		count, before := 0, 0
		for r := range m.states {
			m.states[r] = []api.RegionState{api.Eden, api.Old, api.Survivor, api.Old}[r%4]
			for at := m.base(r); at < m.base(r+1); at += 4 {
				m.put(at, 4, 1+at/4%3, lead(before))
				if at/4%3 == 0 {
					count++
					before = at
				}
			}
		}
		m.words[1] = lead(before)
		h := m.handle(before).lay(t)
		// Of four words each, so that each region is filled to its end.
		regions := (4*count + m.region - 1) / m.region
		if n, e := full.Need(h); n != regions || e != api.OK {
			t.Fatalf("Need: %d, %v, not %d", n, e, regions)
		}
		if n, e := full.Compact(h); n != 4*count || e != api.OK {
			t.Fatalf("Compact: %d, %v, not %d", n, e, 4*count)
		}
		if e := h.Check(); e != api.OK {
			t.Fatalf("Check: %v", e)
		}
		for i := range count {
			w, _ := h.Arena.Load(4 * i)
			to, _ := h.Arena.Load(4*i + 1)
			if w != object(4, 1) || to != lead(4*((i+count-1)%count)) {
				t.Fatalf("the object %d: %d, %d", i, w, to)
			}
		}
		if len(h.Regions.List(api.Old)) != regions || len(h.Regions.List(api.Free)) != len(m.states)-regions {
			t.Errorf("Shift %d: %d regions are old, not %d", shift, len(h.Regions.List(api.Old)), regions)
		}
	}
}

// P20.1: the most regions, all of them big objects, of which all lead to the first and the last, and half are left: the sets know of many sources.
func TestTheMostRegions(t *testing.T) {
	m := blank(api.Config{Shift: 6, Regions: 65536, CardShift: 3, Threads: 1, Roots: 2, Young: 1})
	last := m.base(65534)
	for r := range m.states {
		m.be(r, api.HumStart)
		next := last
		if r > 1 {
			next = m.base(r - 2)
		}
		m.put(m.base(r), 33+r%32, 8, lead(next), lead(last), lead(0))
	}
	h := m.handle(last).lay(t)
	words := 0
	for r := 0; r < 65536; r += 2 {
		words += 33 + r%32
	}
	if n, e := full.Need(h); n != 32768 || e != api.OK {
		t.Fatalf("Need: %d, %v", n, e)
	}
	if n, e := full.Compact(h); n != words || e != api.OK {
		t.Fatalf("Compact: %d, %v, not %d", n, e, words)
	}
	for r := range 32768 {
		next := m.base(32767)
		if r > 0 {
			next = m.base(r - 1)
		}
		for k, want := range []uint64{object(33+2*r%32, 8), lead(next), lead(64 * 32767), lead(0), 0} {
			if w, _ := h.Arena.Load(m.base(r) + k); w != want {
				t.Fatalf("the word %d of region %d: %d, not %d", k, r, w, want)
			}
		}
	}
	if len(h.Sets.Cards(0)) != 32767 || len(h.Sets.Cards(32767)) != 32767 || len(h.Sets.Cards(7)) != 1 || h.Check() != api.OK {
		t.Errorf("remembered are %d, %d and %d", len(h.Sets.Cards(0)), len(h.Sets.Cards(32767)), len(h.Sets.Cards(7)))
	}
}

// P20.1: threads and handles, as many as may be, each leading to what it led to.
func TestTheMostHandles(t *testing.T) {
	c := api.Config{Shift: 6, Regions: 200, CardShift: 4, Threads: 64, Roots: 64, Young: 1, Queue: 65536}
	m := blank(c)
	d := dice(64)
	for r := range 100 {
		m.states[r*2] = pick(&d, []api.RegionState{api.Eden, api.Survivor, api.Old})
		d.layRow(m, r*2, true)
	}
	all := m.objects(api.Eden, api.Survivor, api.Old)
	all = slices.DeleteFunc(all, func(at int) bool { x, _ := header(m.words[at]); return 2*x.Size > 64 })
	for i := range m.handles {
		for k := range 64 {
			w := lead(all[(i*64+k)%len(all)])
			if k == i {
				w = 0
			}
			m.handles[i] = append(m.handles[i], w)
		}
	}
	m.buffers = make([]piece, 64)
	for r := range m.states {
		if m.states[r] != api.Free {
			m.tops[r] = m.base(r + 1)
		}
	}
	for k := range 5000 {
		m.pushed = append(m.pushed, [2]int{k % 64, k % 800})
	}
	x := compact(t, m.noteAll().lay(t))
	if x.regions > 100 {
		t.Errorf("%d regions", x.regions)
	}
}

// P20.1: a heap in which nothing ever was, of the most words and regions: it ends soon.
func TestGreatEmptyHeaps(t *testing.T) {
	for _, c := range []api.Config{{Shift: 6, Regions: 65536, CardShift: 3}, {Shift: 20, Regions: 4, CardShift: 3}} {
		c.Threads, c.Roots, c.Young = 64, 64, 1
		h, _ := heap.New(c)
		for range 10 {
			n, e := full.Compact(h)
			m, f := full.Need(h)
			if n != 0 || m != 0 || e != api.OK || f != api.OK {
				t.Errorf("%d, %v, %d, %v", n, e, m, f)
			}
		}
	}
}
