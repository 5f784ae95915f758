package evac_test

import (
	"slices"
	"testing"

	"gleaner/api"
	"gleaner/evac"
)

// The greatest regions: an object that is a whole one is moved, or kept; a home becomes one filler but for a word.
func TestGreatestRegions(t *testing.T) {
	for fail := range 2 {
		c := api.Config{Shift: 20, Regions: 4, CardShift: 9, Threads: 1, Roots: 2, Young: 1, Tenure: fail, Fail: fail}
		m := blank(c)
		m.be(0, api.Old, api.Eden, api.Old)
		m.put(0, 1<<20, 1<<20-1, lead(1<<20))
		m.put(1<<20, 1<<20, 1<<20-1, lead(0))
		m.words[1<<20-1], m.words[2<<20-2], m.words[2<<20-1] = lead(2<<20), lead(3<<20-1), lead(1<<20)
		m.put(2<<20, 1<<20-1, 1)
		m.put(3<<20-1, 1, 0)
		m.remember(1, 1).remember(2, 1<<20-1).handle(1 << 20)
		x := pause(t, m.noteAll().lay(t), []int{2, 1}, false)
		if fail == 0 {
			if x.now[1<<20] != 3<<20 || !slices.Equal(x.report.Kept, []int{2}) || !slices.Equal(x.report.Freed, []int{1}) {
				t.Errorf("%+v, %v", x.report, x.now)
			}
			continue
		}
		if w, _ := x.h.Arena.Load(2 << 20); w != object(1<<20-1, 1) || x.report.Failed != 3 {
			t.Errorf("%+v", x.report)
		}
	}
}

// A home of which but the last word is kept, in regions of each size: the filler ahead of it is one.
func TestGreatFillers(t *testing.T) {
	for shift := 6; shift <= 20; shift++ {
		c := api.Config{Shift: shift, Regions: 2, CardShift: 3, Threads: 1, Roots: 2, Young: 1, Fail: 1}
		m := blank(c)
		m.be(0, api.Eden)
		end := m.region
		m.put(0, end-2, end-3)
		m.fill(end-2, 1)
		m.put(end-1, 1, 0)
		x := pause(t, m.handle(end-1).lay(t), []int{0}, true)
		row, _ := x.h.Row(0)
		if w, _ := x.h.Arena.Load(0); w != filler(end-1) || !slices.Equal(row, []int{0, end - 1}) {
			t.Errorf("Shift %d: %v", shift, row)
		}
	}
}

// The most regions, nearly all young or nearly all old and full, and a chain through all objects: it ends soon, whether there is room or not.
func TestTheMostRegions(t *testing.T) {
	for k, c := range []struct {
		all, old, eden, size int
		tenure, fail         int
	}{
		{16384, 0, 8192, 3, 1, 0}, {16384, 0, 16384, 3, 1, 0}, {16384, 0, 16384, 2, 7, 1}, {16384, 8000, 5000, 31, 1, 0}, {16384, 8000, 5000, 5, 7, 3}, {65536, 65000, 530, 2, 1, 0},
	} {
		m := blank(api.Config{Shift: 6, Regions: c.all, CardShift: 6, Threads: 1, Roots: 1, Young: 1, Tenure: c.tenure, Fail: c.fail})
		for r := range c.old {
			m.be(r, api.Old)
			m.put(m.base(r), 62+r%3, 1)
		}
		var all []int
		for r := c.old; r < c.old+c.eden; r++ {
			m.be(r, api.Eden)
			for at := m.base(r); at+c.size <= m.base(r+1); at += c.size {
				m.put(at, c.size, 1)
				all = append(all, at)
			}
		}
		h := m.chain(all...).lay(t)
		ahead, _ := h.Shape()
		r, e := evac.Pause(h, m.young(), k%2 > 0)
		after, f := h.Shape()
		if e != api.OK || f != api.OK || !slices.Equal(ahead, after) || r.Moved+r.Failed != len(all) || len(r.Freed)+len(r.Kept) != c.eden {
			t.Errorf("case %d: %v, %v: %d moved, %d failed of %d, %d freed, %d kept", k, e, f, r.Moved, r.Failed, len(all), len(r.Freed), len(r.Kept))
		}
		// A region takes so many of the objects, behind what old ones have.
		room := (c.all - c.old - c.eden) * (64 / c.size)
		if c.tenure == 1 && c.size == 2 {
			room += (c.old + 2) / 3
		}
		failed := max(len(all)-room, 0)
		if c.fail > 0 {
			failed = max(failed, len(all)/c.fail)
		}
		if r.Failed != failed {
			t.Errorf("case %d: %d of %d failed, not %d", k, r.Failed, len(all), failed)
		}
	}
}

// Each size that an object may have, in old regions that get full in another order than they lie: the first of a size that has no room is found soon.
func TestManySizes(t *testing.T) {
	m := blank(api.Config{Shift: 12, Regions: 1024, CardShift: 9, Threads: 1, Roots: 1, Young: 1, Tenure: 1})
	for r := range 500 {
		m.be(r, api.Old)
		m.fill(m.base(r), 1+r*37%4096)
	}
	var all []int
	at, r := 0, 500
	for k := range 1000 {
		size := 2 + k*331%2047
		if at+size > 4096 {
			at, r = 0, r+1
		}
		m.be(r, api.Eden)
		m.put(m.base(r)+at, size, 1)
		all = append(all, m.base(r)+at)
		at += size
	}
	// By the chapter's words, one by one: each object's place is the lowest with room.
	tops := slices.Clone(m.tops)
	want := map[int]int{}
	for _, from := range all {
		size := m.size(from)
		for q := range 1024 {
			if m.states[q] != api.Eden && tops[q]+size <= m.base(q+1) && (m.states[q] == api.Old || tops[q] > m.base(q)) {
				want[from] = tops[q]
				break
			}
		}
		if _, is := want[from]; !is {
			for q := range 1024 {
				if m.states[q] == api.Free && tops[q] == m.base(q) {
					want[from] = tops[q]
					break
				}
			}
		}
		tops[want[from]/4096] += size
	}
	h := m.chain(all...).lay(t)
	if r, e := evac.Pause(h, m.young(), false); e != api.OK || r.Failed > 0 {
		t.Fatalf("%v, %v", r, e)
	}
	w, _ := h.Roots[0].At(0)
	for _, from := range all {
		if uint64(w) != lead(want[from]) {
			t.Fatalf("what was at %d is at %d, not %d", from, w-1, want[from])
		}
		next, _ := h.Arena.Load(int(w))
		w = api.Ref(next)
	}
}
