package full_test

import (
	"slices"
	"testing"

	"gleaner/api"
	"gleaner/full"
	"gleaner/heap"
)

// is is what a region must be, and what stands in it.
type is struct {
	state api.RegionState
	row   []int
}

// wantRegions asks for the first regions of a heap; all others must be free.
func wantRegions(t *testing.T, h *heap.Heap, want ...is) {
	t.Helper()
	for r := range h.Geom.Regions {
		w := is{}
		if r < len(want) {
			w = want[r]
		}
		row, e := h.Row(r)
		if s := h.Regions.State(r); s != w.state || !slices.Equal(row, w.row) || e != api.OK {
			t.Fatalf("region %d is %d, its row %v, %v, not %d, %v", r, s, row, e, w.state, w.row)
		}
	}
}

// wantHandles asks for a thread's handles, told by the addresses that they lead to.
func wantHandles(t *testing.T, h *heap.Heap, thread int, want ...int) {
	t.Helper()
	var all []api.Ref
	for _, at := range want {
		all = append(all, api.Ref(lead(at)))
	}
	if l := h.Roots[thread].List(); !slices.Equal(l, all) {
		t.Fatalf("thread %d has the handles %v, not %v", thread, l, all)
	}
}

// wantLeft compacts a heap, and asks for what is left, told by where it stood.
func wantLeft(t *testing.T, m *model, want ...int) *trial {
	t.Helper()
	x := compact(t, m.lay(t))
	if !slices.Equal(x.left, want) {
		t.Fatalf("there are left %v, not %v", x.left, want)
	}
	return x
}

// chain has each of these lead to the next one, and a handle to the first.
func (m *model) chain(all ...int) *model {
	m.handle(all[0])
	for i, at := range all[1:] {
		m.words[all[i]+1] = lead(at)
	}
	return m
}

// example is layer 14's, with a second old object that nothing leads to.
func example() *model {
	m := blank(api.Config{Shift: 6, Regions: 4, CardShift: 3, Threads: 1, Roots: 4, Young: 1})
	m.be(0, api.Old)
	m.put(0, 3, 1)
	m.put(3, 3, 1)
	return m.handle(0)
}

// P20.1, P20.2: the chapter's example, in both forms.
func TestExample(t *testing.T) {
	m := example()
	x := compact(t, m.lay(t))
	if x.words != 3 || x.regions != 1 {
		t.Errorf("%d words, %d regions", x.words, x.regions)
	}
	wantRegions(t, x.h, is{api.Old, []int{0}})
	wantHandles(t, x.h, 0, 0)

	m.be(1, api.Eden)
	m.put(64, 2, 1)
	x = compact(t, m.handle(64).lay(t))
	if x.words != 5 || x.regions != 1 {
		t.Errorf("%d words, %d regions", x.words, x.regions)
	}
	wantRegions(t, x.h, is{api.Old, []int{0, 3}})
	wantHandles(t, x.h, 0, 0, 3)
}

// P20.1, P20.2: a heap with no object, of each number of threads; what is left of a life that has ended is nothing.
func TestNoObject(t *testing.T) {
	d := dice(20)
	for regions := 2; regions < 9; regions++ {
		c := small(regions)
		c.Threads = regions * 7
		h, _ := heap.New(c)
		if x := compact(t, h); x.words != 0 || x.regions != 0 {
			t.Errorf("%d words, %d regions", x.words, x.regions)
		}
		m := blank(c)
		for i := range m.handles {
			m.handles[i] = make([]uint64, i%21)
		}
		for r := range regions {
			// Regions without a word in their rows.
			m.be(r, pick(&d, []api.RegionState{api.Free, api.Eden, api.Survivor, api.Old}))
		}
		wantLeft(t, m)
	}
}

// P20.1, P20.3: objects of all states, and fillers, that nothing leads to but one another: all regions are free then.
func TestNothingLeft(t *testing.T) {
	m := stage()
	m.handles = make([][]uint64, 2)
	x := wantLeft(t, m)
	wantRegions(t, x.h)
	m.handles = [][]uint64{{0, 0, 0}, {0}}
	x = wantLeft(t, m)
	wantRegions(t, x.h)
	if x.words != 0 || x.regions != 0 {
		t.Errorf("%d words, %d regions", x.words, x.regions)
	}
}

// scene is four objects in the region 2, one each in 0, 1 and 3, and a big one in 4.
func scene() *model {
	m := blank(small(8))
	m.be(0, api.Old, api.Old, api.Eden, api.Survivor, api.HumStart)
	m.put(0, 9, 8)
	m.put(64, 9, 8)
	m.put(128, 4, 3)
	m.put(132, 4, 3)
	m.put(136, 4, 3)
	m.put(140, 4, 3)
	m.put(192, 4, 3)
	m.put(256, 60, 50)
	return m.noteAll()
}

// P20.1: each way to be come to, alone and together: by a handle, by a reference, of a reference, of several at once, of itself, in a ring.
func TestEachWayToBeLeft(t *testing.T) {
	wantLeft(t, scene())
	for _, at := range []int{0, 64, 128, 132, 136, 140, 192, 256} {
		wantLeft(t, scene().handle(at), at)
		wantLeft(t, scene().handle(at, at, at), at)
		m := scene()
		m.handles[1] = []uint64{0, lead(at), 0}
		m.words[at+3] = lead(at)
		wantLeft(t, m, at)
		m.handles[1] = nil
		wantLeft(t, m)
	}

	m := scene().handle(128)
	m.words[129], m.words[131], m.words[133] = lead(192), lead(140), lead(128)
	wantLeft(t, m, 128, 140, 192)
	m.words[194] = lead(0)
	wantLeft(t, m, 0, 128, 140, 192)
	m.words[1] = lead(132)
	wantLeft(t, m, 0, 128, 132, 140, 192)
	m.words[8] = lead(256)
	wantLeft(t, m, 0, 128, 132, 140, 192, 256)
	m.words[306] = lead(64)
	wantLeft(t, m, 0, 64, 128, 132, 140, 192, 256)

	// A ring over all, and each way into it.
	all := []int{140, 0, 256, 128, 64, 192, 136, 132}
	for k := range 9 {
		m := scene()
		for i, at := range all {
			m.words[at+3] = lead(all[(i+1)%8])
		}
		if k == 8 {
			wantLeft(t, m)
			continue
		}
		wantLeft(t, m.handle(all[k]), 0, 64, 128, 132, 136, 140, 192, 256)
		// Cut open, all behind the cut is left.
		m.words[all[4]+3] = 0
		want := append(slices.Clone(all[:5]), all[k:]...)
		if k <= 4 {
			want = slices.Clone(all[k:5])
		}
		slices.Sort(want)
		wantLeft(t, m, slices.Compact(want)...)
	}
}

// P20.1: what isn't left: what a data word leads to, an object that nothing left leads to, a filler's words, words behind a row.
func TestWhatIsNotLeft(t *testing.T) {
	m := scene()
	m.put(64, 9, 7)
	m.words[72] = lead(128) // a data word
	m.fill(73, 5)
	m.words[75] = lead(128)
	m.words[100] = lead(128)
	m.words[133] = lead(128)
	m.words[307] = lead(128)
	m.words[315] = lead(128)
	m.words[330] = lead(128)
	for home := range 5 {
		if home != 2 {
			m.remember(home, 128)
		}
	}
	m.remember(2, 72, 75, 100, 307, 315, 330, 193, 1)
	m.words[193] = lead(136)
	for at := range m.words {
		m.marks = append(m.marks, at)
	}
	wantLeft(t, m.handle(64, 256), 64, 256)
}

// P20.1: an object that leads nowhere but for its last reference, the first data word being one that looks like a reference: of each number of references.
func TestEachLastReference(t *testing.T) {
	for ptrs := range 31 {
		m := blank(small(3))
		m.be(0, api.Old, api.Eden)
		m.put(0, 32, ptrs)
		m.put(64, 2, 1)
		m.put(66, 5, 0, 1, 2, 3, 67)
		m.words[1+ptrs] = lead(66)
		if ptrs > 0 {
			m.words[ptrs] = lead(64)
			x := wantLeft(t, m.handle(0), 0, 64)
			if w, _ := x.h.Arena.Load(1 + ptrs); w != lead(66) {
				t.Errorf("with %d references the first data word is %d", ptrs, w)
			}
		} else {
			wantLeft(t, m.handle(0), 0)
		}
	}
}

// crowd is a region of eight things, of which the third and the sixth are fillers, with Ages.
func crowd(r int, s api.RegionState) (*model, []int) {
	m := blank(small(5))
	m.be(r, s)
	var all []int
	at := m.base(r)
	for i := range 8 {
		size := 5 + i
		if i == 7 {
			size = 8
		}
		if i == 2 || i == 5 {
			m.fill(at, size)
		} else {
			m.put(at, size, 2, 0, 0, uint64(at), lead(at))
			m.age(at, i)
		}
		all = append(all, at)
		at += size
	}
	return m, all
}

// P20.1: each set of a region's objects being left: they stand one behind the other, in their order, and their Ages are 0.
func TestEachSetOfObjects(t *testing.T) {
	for k, s := range []api.RegionState{api.Eden, api.Survivor, api.Old, api.Eden} {
		for bits := range 1 << 8 {
			m, all := crowd(k, s)
			var row, places []int
			top := 0
			for i, at := range all {
				if i != 2 && i != 5 && bits>>i&1 == 1 {
					m.handles[i%2] = append(m.handles[i%2], lead(at))
					row, places = append(row, top), append(places, at)
					x, _ := header(m.words[at])
					top += x.Size
				}
			}
			x := wantLeft(t, m.noteAll(), places...)
			if x.words != top {
				t.Fatalf("%d words, not %d", x.words, top)
			}
			if len(row) == 0 {
				wantRegions(t, x.h)
				continue
			}
			wantRegions(t, x.h, is{api.Old, row})
			if x.h.Regions.Top(0) != top {
				t.Fatalf("Top %d, not %d", x.h.Regions.Top(0), top)
			}
		}
	}
}

// P20.1: an object of each Age, Size and number of references in a region of each state: its header is told anew.
func TestEachAge(t *testing.T) {
	for age := range 8 {
		for _, s := range []api.RegionState{api.Eden, api.Survivor, api.Old, api.HumStart} {
			for tenure := range 8 {
				c := small(4)
				c.Tenure = tenure
				m := blank(c)
				m.be(2, s)
				size := 3 + age
				if s == api.HumStart {
					size = 50 + age
				}
				m.put(128, size, tenure%size, 0)
				m.age(128, age)
				x := wantLeft(t, m.handle(128), 128)
				if w, _ := x.h.Arena.Load(0); w != object(size, tenure%size) {
					t.Errorf("an Age of %d in a region of %d: %d", age, s, w)
				}
			}
		}
	}
}

// sizes lays objects of these sizes, one behind the other, from a region on, in rows of a state as they fit; each has a handle. Their addresses.
func (m *model) sizes(r int, s api.RegionState, sizes ...int) []int {
	var all []int
	at := m.base(r)
	m.be(r, s)
	for i, size := range sizes {
		if at+size > m.base(r+1) {
			r++
			m.be(r, s)
			at = m.base(r)
		}
		m.put(at, size, 0)
		m.handles[i%len(m.handles)] = append(m.handles[i%len(m.handles)], lead(at))
		all = append(all, at)
		at += size
	}
	return all
}

// P20.1, P20.2: objects that fill a region just to its end, that lack a word of room, that have one too many; a region that is left with room stays so, though what comes behind would fit.
func TestPacking(t *testing.T) {
	for _, c := range []struct {
		sizes []int
		rows  [][]int
	}{
		{[]int{32, 32}, [][]int{{0, 32}}},
		{[]int{32, 32, 1}, [][]int{{0, 32}, {64}}},
		{[]int{31, 32, 1}, [][]int{{0, 31, 63}}},
		{[]int{31, 32, 2}, [][]int{{0, 31}, {64}}},
		{[]int{32, 31, 2, 1}, [][]int{{0, 32}, {64, 66}}},
		{[]int{30, 30, 5, 4, 3}, [][]int{{0, 30}, {64, 69, 73}}},
		{[]int{30, 30, 4, 32, 32}, [][]int{{0, 30, 60}, {64, 96}}},
		{[]int{30, 30, 5, 32, 28, 27, 4}, [][]int{{0, 30}, {64, 69}, {128, 156, 183}}},
		{[]int{20, 20, 20, 5, 1, 30, 30, 4, 1}, [][]int{{0, 20, 40}, {64, 69, 70}, {128, 158, 162}}},
		{[]int{32, 31, 32, 31, 32, 31, 1, 1}, [][]int{{0, 32}, {64, 96}, {128, 160, 191}, {192}}},
		{[]int{32, 31, 32, 31, 2, 32, 31}, [][]int{{0, 32}, {64, 96}, {128, 130}, {192}}},
		{[]int{16, 16, 16, 16, 16}, [][]int{{0, 16, 32, 48}, {64}}},
		{[]int{17, 17, 17, 17, 17, 13, 13}, [][]int{{0, 17, 34}, {64, 81, 98, 111}}},
	} {
		for _, s := range []api.RegionState{api.Eden, api.Survivor, api.Old} {
			for first := range 4 {
				m := blank(small(8))
				m.sizes(first, s, c.sizes...)
				x := compact(t, m.noteAll().lay(t))
				var want []is
				for _, row := range c.rows {
					want = append(want, is{api.Old, row})
				}
				wantRegions(t, x.h, want...)
			}
		}
	}
}

// P20.1: each three sizes about the edges, in two regions, ahead and behind of one another.
func TestEachThreeSizes(t *testing.T) {
	edges := []int{1, 2, 3, 15, 16, 17, 30, 31, 32}
	for _, a := range edges {
		for _, b := range edges {
			for _, c := range edges {
				m := blank(small(6))
				m.sizes(1, api.Old, a, 64-a)
				m.handles = [][]uint64{{lead(64)}, nil}
				if m.fill(64+a, 64-a); b > 1 {
					m.be(2, api.Survivor)
					m.put(128, b, 1)
					m.handle(128)
				}
				m.sizes(3, api.Eden, c, b, 32)
				compact(t, m.noteAll().lay(t))
			}
		}
	}
}

// P20.1, P20.3: nothing moves of what is packed already, and is old; and of a heap that is full all is left where it is, each word used.
func TestWhatIsPackedAlready(t *testing.T) {
	m := blank(small(6))
	m.be(0, api.HumStart, api.HumCont, api.HumStart, api.Old, api.Old, api.Old)
	m.put(0, 128, 100, lead(128), lead(192))
	m.put(128, 64, 63, lead(0))
	all := []int{192, 224, 256, 280, 304, 320, 321, 352}
	for i, at := range all {
		end := 384
		if i < 7 {
			end = all[i+1]
		}
		m.put(at, end-at, (end-at)/2, lead(all[(i+1)%8]), lead(128))
	}
	m.words[320] = object(1, 0)
	m.words[305] = lead(321)
	m.handle(0, 320)
	x := wantLeft(t, m.noteAll(), slices.Concat([]int{0, 128}, all)...)
	for at := range m.words {
		if w, _ := x.h.Arena.Load(at); w != m.words[at] {
			t.Errorf("the word %d: %d, not %d", at, w, m.words[at])
		}
	}
	if x.words != 384 || x.regions != 6 {
		t.Errorf("%d words, %d regions", x.words, x.regions)
	}
}

// P20.1: a heap that is full, of objects of all states: all are left, though each one goes elsewhere; or one of the big ones isn't left.
func TestFullHeaps(t *testing.T) {
	for _, big := range []bool{true, false} {
		for _, states := range [][]api.RegionState{{api.Eden, api.Survivor, api.Old}, {api.Old, api.Old, api.Old}, {api.Eden, api.Eden, api.Eden}} {
			m := blank(small(6))
			m.be(0, states...)
			m.be(3, api.HumStart, api.HumStart, api.HumCont)
			m.put(192, 64, 63)
			m.put(256, 128, 127)
			var all []int
			for r := range 3 {
				for at := m.base(r); at < m.base(r+1); at += 16 {
					m.put(at, 16, 15)
					all = append(all, at)
				}
			}
			if big {
				all = append(all, 192)
			}
			m.chain(append(all, 256)...)
			m.words[383] = lead(176)
			x := compact(t, m.noteAll().lay(t))
			want := []is{{api.HumStart, []int{0}}, {api.HumStart, []int{64}}, {api.HumCont, nil}}
			row := 192
			if !big {
				want = []is{{api.HumStart, []int{0}}, {api.HumCont, nil}}
				row = 128
			}
			for range 3 {
				want = append(want, is{api.Old, []int{row, row + 16, row + 32, row + 48}})
				row += 64
			}
			wantRegions(t, x.h, want...)
		}
	}
}

// full's calls in both orders: Need tells what Compact would come to, whatever came ahead.
func TestNeedAheadAndBehind(t *testing.T) {
	m := stage()
	h := m.lay(t)
	for range 3 {
		twin := twinOf(h)
		for range 3 {
			if n, e := full.Need(h); n != 4 || e != api.OK || !same(h, twin) {
				t.Fatalf("Need: %d, %v", n, e)
			}
		}
		if n, e := full.Compact(h); n != 152 || e != api.OK {
			t.Fatalf("Compact: %d, %v", n, e)
		}
	}
	// As soon as nothing leads there any more, less is needed.
	for h.Roots[0].Len()+h.Roots[1].Len() > 0 {
		h.Roots[0].Pop()
		h.Roots[1].Pop()
		compact(t, h)
	}
	if n, e := full.Need(h); n != 0 || e != api.OK {
		t.Errorf("Need: %d, %v", n, e)
	}
}
