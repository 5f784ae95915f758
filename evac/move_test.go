package evac_test

import (
	"slices"
	"testing"

	"gleaner/api"
)

// Each Tenure with each Age, of an object of a home of each state: where it goes, and its Age there.
func TestEachTenureAndAge(t *testing.T) {
	for tenure := range 8 {
		for age := range 8 {
			for _, from := range []api.RegionState{api.Eden, api.Survivor, api.Old} {
				for _, marking := range []bool{false, true} {
					if marking && from == api.Old {
						continue
					}
					c := small(3)
					c.Tenure = tenure
					m := blank(c)
					m.be(0, api.Free, from)
					m.put(64, 5, 2, 0, lead(64), 7, 8)
					m.age(64, age)
					x := pause(t, m.handle(64).lay(t), []int{1}, marking)
					s, want := api.Survivor, aged(5, 2, min(age+1, 7))
					if from == api.Old || age+1 >= tenure {
						s, want = api.Old, object(5, 2)
					}
					if w, _ := x.h.Arena.Load(0); w != want || x.h.Regions.State(0) != s || x.now[64] != 0 {
						t.Errorf("Tenure %d, Age %d, from %d: %d in a region that is %d", tenure, age, from, w, x.h.Regions.State(0))
					}
				}
			}
		}
	}
}

// An object's Age over many pauses: it grows, till the object is old.
func TestAgeOverManyPauses(t *testing.T) {
	for tenure := range 8 {
		c := small(3)
		c.Tenure = tenure
		m := blank(c)
		m.be(0, api.Free, api.Eden)
		m.put(64, 5, 2)
		h := m.handle(64).lay(t)
		for n := 1; n < 10; n++ {
			x := pause(t, h, read(h).young(), false)
			r, _ := h.Roots[0].At(0)
			o, _ := h.Object(r)
			age, moved := n, 1
			if n >= tenure {
				age = 0
			}
			if n > max(tenure, 1) {
				moved = 0
			}
			if o.Age != age || x.report.Moved != moved {
				t.Errorf("Tenure %d, pause %d: Age %d, %d moved", tenure, n, o.Age, x.report.Moved)
			}
		}
	}
}

// chain has thread 0 have a handle of the first of these objects, and each one's first reference lead to the next: so they are moved in that order.
func (m *model) chain(all ...int) *model {
	m.handle(all[0])
	for i, at := range all[1:] {
		m.words[all[i]+1] = lead(at)
	}
	return m
}

// Objects of sizes, one behind the other, in homes from a region on: their addresses.
func (m *model) objectsOf(r int, s api.RegionState, sizes ...int) []int {
	var all []int
	m.be(r, s)
	at := m.base(r)
	for _, size := range sizes {
		if at+size > m.base(r+1) {
			r++
			m.be(r, s)
			at = m.base(r)
		}
		m.put(at, size, 1)
		all = append(all, at)
		at += size
	}
	return all
}

// Where a row of objects goes, one by one, if regions from 0 on are old and used so far, or free: to each one's end, or lacking one word.
func TestPlaces(t *testing.T) {
	const free = -1
	for k, c := range []struct {
		used, sizes, want []int
	}{
		{[]int{60}, []int{4}, []int{60}},
		{[]int{60, free}, []int{5}, []int{64}},
		{[]int{60, 62, 3}, []int{4, 3, 2}, []int{60, 131, 126}},
		{[]int{60, 59, 3}, []int{5, 5, 4, 2, 2}, []int{123, 131, 60, 136, 138}},
		{[]int{64, 64, free}, []int{2, 64}, []int{128, -1}},
		{[]int{64, 64, free, 64, free}, []int{2, 64, 62, 2}, []int{128, 256, 130, -1}},
		{[]int{free, 60, free}, []int{4, 2, 30, 33}, []int{124, 0, 2, 128}},
		{[]int{free, 60, free}, []int{5, 4, 59, 3}, []int{0, 5, 128, 9}},
		{[]int{64, free, 30, free, free}, []int{34, 3, 62, 3, 58, 64}, []int{158, 64, 192, 67, 70, 256}},
		{[]int{0, 0}, []int{64, 64}, []int{0, 64}},
		{[]int{0, 0}, []int{63, 2, 62, 2}, []int{0, 64, 66, -1}},
		{[]int{free, free}, []int{33, 33, 31, 31, 2}, []int{0, 64, 33, 97, -1}},
		{[]int{63, 62, 61}, []int{3, 3, 2, 2}, []int{189, -1, 126, -1}},
		{[]int{63, 64}, []int{2}, []int{-1}},
		{[]int{64, free, 64, 50, free}, []int{20, 15, 14, 50}, []int{64, 84, 99, 256}},
	} {
		m := blank(small(len(c.used) + 7))
		for r, used := range c.used {
			if used == free {
				continue
			}
			m.be(r, api.Old)
			if used > 0 {
				m.fill(m.base(r), used)
			}
		}
		all := m.objectsOf(len(c.used), api.Eden, c.sizes...)
		homes := m.list(api.Eden)
		// No other region is free but those that were told.
		for r := len(c.used) + len(homes); r < len(m.states); r++ {
			m.be(r, api.HumStart)
			m.put(m.base(r), 64, 63, lead(m.base(r)))
		}
		x := pause(t, m.chain(all...).lay(t), homes, k%2 > 0)
		kept := 0
		for i, at := range all {
			want := c.want[i]
			if want < 0 {
				want = at
				kept++
			}
			if x.now[at] != want {
				t.Errorf("case %d: the object %d is at %d, not %d", k, i, x.now[at], want)
			}
		}
		if x.report.Failed != kept {
			t.Errorf("case %d: %d failed, not %d", k, x.report.Failed, kept)
		}
	}
}

// Homes take nothing, however much room they have, be they old or young, lower or higher; nor do big regions, nor such as are of the other state.
func TestHomesTakeNothing(t *testing.T) {
	for _, tenure := range []int{1, 7} {
		c := small(10)
		c.Tenure = tenure
		m := blank(c)
		m.be(0, api.Old, api.Survivor, api.Eden, api.HumStart, api.Old, api.Free, api.Old, api.Free, api.Survivor, api.Old)
		m.put(128, 3, 1)
		m.put(131, 3, 1, lead(131))
		m.put(192, 1, 0)
		m.fill(256, 60)
		m.fill(384, 64)
		m.put(512, 3, 2)
		m.age(512, 6)
		x := pause(t, m.chain(128, 131, 512).lay(t), []int{8, 2, 1, 0, 9}, false)
		want := map[int]int{128: 256 + 64, 131: 256 + 67, 512: 448}
		if tenure == 1 {
			want = map[int]int{128: 256 + 60, 131: 256 + 64, 512: 256 + 67}
		} else {
			// The last one is old by its Age: the region 4 has 4 words left.
			want[512] = 256 + 60
		}
		for at, to := range want {
			if x.now[at] != to {
				t.Errorf("Tenure %d: what was at %d is at %d, not %d", tenure, at, x.now[at], to)
			}
		}
	}
}

// What becomes old and what stays young goes to regions of two states, that are claimed in turn.
func TestTwoStatesAtOnce(t *testing.T) {
	c := small(8)
	c.Tenure = 3
	m := blank(c)
	m.be(0, api.Free, api.Old, api.Free, api.Survivor, api.Eden, api.Free)
	m.fill(64, 60)
	all := append(m.objectsOf(3, api.Survivor, 20, 20, 20), m.objectsOf(4, api.Eden, 20, 20, 4)...)
	m.age(all[0], 2)
	m.age(all[1], 1)
	m.age(all[2], 7)
	m.age(all[3], 2)
	m.age(all[5], 2)
	x := pause(t, m.chain(all...).lay(t), []int{3, 4}, false)
	for i, want := range []int{0, 128, 20, 40, 148, 60} {
		if x.now[all[i]] != want {
			t.Errorf("the object %d is at %d, not %d", i, x.now[all[i]], want)
		}
	}
	if x.h.Regions.State(0) != api.Old || x.h.Regions.State(2) != api.Survivor {
		t.Errorf("states: %d, %d", x.h.Regions.State(0), x.h.Regions.State(2))
	}
}

// Each so manieth move fails, whatever room there is: of rows of objects of each length.
func TestFail(t *testing.T) {
	for count := range 9 {
		for _, fail := range []int{0, 1, 2, 3, 4, 5, 7, 8, 9, 10, 65536} {
			c := small(8)
			c.Fail = fail
			m := blank(c)
			m.be(0, api.Free, api.Eden)
			all := m.objectsOf(1, api.Eden, slices.Repeat([]int{7}, count)...)
			if count > 0 {
				m.chain(all...)
			}
			x := pause(t, m.lay(t), []int{1}, false)
			to := 0
			for i, at := range all {
				want := to
				if fail > 0 && (i+1)%fail == 0 {
					want = at
				} else {
					to += 7
				}
				if x.now[at] != want {
					t.Errorf("Fail %d: the object %d of %d is at %d, not %d", fail, i, count, x.now[at], want)
				}
			}
			claimed := api.Old
			if to == 0 {
				claimed = api.Free
			}
			if x.h.Regions.State(0) != claimed {
				t.Errorf("Fail %d, %d objects: the region 0 is %d", fail, count, x.h.Regions.State(0))
			}
			// The next pause counts anew.
			if fail == 2 && count == 1 {
				x = pause(t, x.h, []int{0}, false)
				if x.report.Moved != 1 {
					t.Errorf("a second pause: %+v", x.report)
				}
			}
		}
	}
}

// A move that fails for want of room counts as well: with Fail 3 the second one finds none, and the third one fails though there is room.
func TestFailsOfBothKinds(t *testing.T) {
	c := small(4)
	c.Fail = 3
	m := blank(c)
	m.be(0, api.Old, api.Eden, api.HumStart, api.HumStart)
	m.fill(0, 50)
	m.put(128, 40, 39, lead(128))
	m.put(192, 40, 39, lead(192))
	all := m.objectsOf(1, api.Eden, 3, 20, 3, 4, 5, 3)
	x := pause(t, m.chain(all...).lay(t), []int{1}, false)
	for i, want := range []int{50, all[1], all[2], 53, 57, all[5]} {
		if x.now[all[i]] != want {
			t.Errorf("the object %d is at %d, not %d", i, x.now[all[i]], want)
		}
	}
	if x.report.Moved != 3 || x.report.Failed != 3 {
		t.Errorf("%+v", x.report)
	}
}

// Objects of each size that there may be in a region, with each number of references, go as they are: each word of them.
func TestEachSizeAndPtrs(t *testing.T) {
	for size := 1; size <= 64; size++ {
		for ptrs := range size {
			m := blank(small(3))
			m.be(0, api.Free, api.Eden)
			m.put(64, size, ptrs)
			for k := 1; k < size; k++ {
				m.words[64+k] = lead(64)
				if k > ptrs {
					m.words[64+k] += uint64(k) << 40
				}
			}
			if size > 1 && ptrs < size-1 {
				m.words[64+size-1] = lead(64)
			}
			x := pause(t, m.handle(64).lay(t), []int{1}, false)
			for k := 1; k < size; k++ {
				want := m.words[64+k]
				if k <= ptrs {
					want = 1
				}
				if w, _ := x.h.Arena.Load(k); w != want {
					t.Fatalf("Size %d, Ptrs %d: the word %d is %d, not %d", size, ptrs, k, w, want)
				}
			}
		}
	}
}

// Handles of all threads, many of one object, nil ones and such as lead elsewhere.
func TestHandles(t *testing.T) {
	c := small(5)
	c.Threads = 4
	m := blank(c)
	m.be(0, api.Old, api.Eden, api.HumStart)
	m.put(0, 3, 0)
	m.put(64, 3, 0)
	m.put(67, 3, 0)
	m.put(128, 40, 0)
	m.handles = [][]uint64{{lead(67), 0, lead(64), lead(67)}, {}, {lead(0), lead(128)}, slices.Repeat([]uint64{lead(67)}, 20)}
	x := pause(t, m.lay(t), []int{1}, true)
	for i, want := range [][]api.Ref{{4, 0, 7, 4}, {}, {1, 129}, slices.Repeat([]api.Ref{4}, 20)} {
		if l := x.h.Roots[i].List(); !slices.Equal(l, want) {
			t.Errorf("thread %d: %v, not %v", i, l, want)
		}
	}
}

// Words that are left in buffers are dropped ahead of all: in homes, and in an old region of the outside, which then takes what is moved.
func TestBuffers(t *testing.T) {
	for first := range 12 {
		m := blank(small(4))
		m.be(0, api.Old, api.Eden)
		m.fill(0, 40)
		m.put(64, 4, 1)
		m.tops = []int{64, 128, 128, 192}
		m.buffers[0] = piece{40, first, 64}
		m.buffers[1] = piece{64, 4, 128}
		if first > 0 {
			m.fill(40, first)
			m.tops[0] = 64
		}
		x := pause(t, m.handle(64).lay(t), []int{1}, first%2 > 0)
		if to := x.now[64]; to != 40+first || x.h.Regions.Top(0) != 44+first {
			t.Errorf("%d words taken: the object is at %d, Top %d", first, to, x.h.Regions.Top(0))
		}
	}
}
