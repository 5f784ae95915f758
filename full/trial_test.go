package full_test

import (
	"maps"
	"slices"
	"testing"

	"gleaner/api"
	"gleaner/full"
	"gleaner/heap"
	"gleaner/remset"
)

// trial is a compaction of a heap, held against the chapter's words: object by object, and table by table.
type trial struct {
	h       *heap.Heap
	m       *model // the heap at the call
	left    []int  // the objects that are left, by the addresses where they stood, rising
	big     []int  // the big ones of them
	places  []int  // the objects that are left, rising by where they stand now
	now     map[int]int
	words   int // of the objects that are left
	apart   int // regions of big objects
	regions int
}

// compact compacts a heap, which must come to what the chapter says.
func compact(t *testing.T, h *heap.Heap) *trial {
	t.Helper()
	ahead := twinOf(h)
	x := &trial{h: h, m: read(h), now: map[int]int{}}
	x.find()
	x.place()
	x.need(t)
	if !same(h, ahead) {
		t.Fatal("Need changed something")
	}
	x.call(t)
	x.checkWhole(t, ahead)
	x.checkBound(t)
	x.need(t)
	behind := twinOf(h)
	x.call(t)
	if !same(h, behind) {
		t.Fatal("compacting again changed something")
	}
	return x
}

// find finds what is left, by the chapter's sentence.
func (x *trial) find() {
	left := map[int]bool{}
	var todo []int
	come := func(w uint64) {
		if at := x.m.target(w); at >= 0 && !left[at] {
			left[at] = true
			todo = append(todo, at)
		}
	}
	for _, l := range x.m.handles {
		for _, w := range l {
			come(w)
		}
	}
	for len(todo) > 0 {
		at := todo[0]
		todo = todo[1:]
		for _, w := range x.m.fields(at) {
			come(w)
		}
	}
	x.left = slices.Sorted(maps.Keys(left))
}

// size is the Size of what stood at an address.
func (x *trial) size(at int) int {
	o, _ := header(x.m.words[at])
	return o.Size
}

// isBig tells whether what stood at an address has more than half of a region's words.
func (x *trial) isBig(at int) bool {
	return 2*x.size(at) > x.m.region
}

// place finds where all must stand: the big ones, each from a region's first word on, then the others, word by word, as long as a region has as many.
func (x *trial) place() {
	for _, at := range x.left {
		x.words += x.size(at)
		if !x.isBig(at) {
			continue
		}
		x.big = append(x.big, at)
		x.now[at] = x.m.base(x.regions)
		for words := x.size(at); words > 0; words -= x.m.region {
			x.regions++
		}
	}
	x.apart = x.regions
	room := 0
	for _, at := range x.left {
		if x.isBig(at) {
			continue
		}
		if room < x.size(at) {
			x.regions++
			room = x.m.region
		}
		x.now[at] = x.m.base(x.regions) - room
		room -= x.size(at)
	}
	x.places = slices.SortedFunc(maps.Keys(x.now), func(one, other int) int { return x.now[one] - x.now[other] })
}

// need asks for Need's answer.
func (x *trial) need(t *testing.T) {
	t.Helper()
	if n, e := full.Need(x.h); n != x.regions || e != api.OK {
		t.Fatalf("Need: %d, %v, not %d", n, e, x.regions)
	}
}

// call calls Compact, and holds everything against what it must be.
func (x *trial) call(t *testing.T) {
	t.Helper()
	if n, e := full.Compact(x.h); n != x.words || e != api.OK {
		t.Fatalf("Compact: %d, %v, not %d", n, e, x.words)
	}
	x.checkRegions(t)
	x.checkObjects(t)
	x.checkHandles(t)
	x.checkOffs(t)
	x.checkSets(t)
	x.checkTables(t)
}

// leads is what a reference must be now.
func (x *trial) leads(w uint64) uint64 {
	if w == 0 {
		return 0
	}
	return lead(x.now[int(w-1)])
}

// checkRegions asks for each region's state, Top, Tams and row.
func (x *trial) checkRegions(t *testing.T) {
	t.Helper()
	states, tops, rows := make([]api.RegionState, len(x.m.states)), make([]int, len(x.m.states)), make([][]int, len(x.m.states))
	for r := range tops {
		tops[r] = x.m.base(r)
	}
	for _, at := range x.places {
		to := x.now[at]
		r, end := to/x.m.region, to+x.size(at)
		rows[r] = append(rows[r], to)
		states[r], tops[r] = api.Old, end
		if !x.isBig(at) {
			continue
		}
		states[r], tops[r] = api.HumStart, min(end, x.m.base(r+1))
		for r++; x.m.base(r) < end; r++ {
			states[r], tops[r] = api.HumCont, min(end, x.m.base(r+1))
		}
	}
	for r := range states {
		row, e := x.h.Row(r)
		if s, top, tams := x.h.Regions.State(r), x.h.Regions.Top(r), x.h.Regions.Tams(r); s != states[r] || top != tops[r] || tams != x.m.base(r) {
			t.Fatalf("region %d is %d, Top %d, Tams %d, not %d, %d, %d", r, s, top, tams, states[r], tops[r], x.m.base(r))
		}
		if !slices.Equal(row, rows[r]) || e != api.OK {
			t.Fatalf("Row(%d): %v, %v, not %v", r, row, e, rows[r])
		}
	}
}

// checkObjects asks for each word of each object.
func (x *trial) checkObjects(t *testing.T) {
	t.Helper()
	for _, at := range x.left {
		o, _ := header(x.m.words[at])
		to := x.now[at]
		for k, want := range x.m.words[at : at+o.Size] {
			switch {
			case k == 0:
				want = object(o.Size, o.Ptrs)
			case k <= o.Ptrs:
				want = x.leads(want)
			}
			if w, e := x.h.Arena.Load(to + k); w != want || e != api.OK {
				t.Fatalf("the word %d of what was at %d and must be at %d: %d, %v, not %d", k, at, to, w, e, want)
			}
		}
	}
}

// checkHandles asks for each handle, and that the stacks have as much room as ever.
func (x *trial) checkHandles(t *testing.T) {
	t.Helper()
	for i, l := range x.m.handles {
		s := x.h.Roots[i]
		if s.Len() != len(l) || s.Room() != x.m.c.Roots-len(l) {
			t.Fatalf("thread %d has %d handles and room for %d, not %d", i, s.Len(), s.Room(), len(l))
		}
		for k, w := range l {
			if r, _ := s.At(k); uint64(r) != x.leads(w) {
				t.Fatalf("the handle %d of thread %d: %d, not %d", k, i, r, x.leads(w))
			}
		}
	}
}

// checkOffs asks what Offs knows of each card.
func (x *trial) checkOffs(t *testing.T) {
	t.Helper()
	known := make([]int, len(x.m.known))
	for card := range known {
		known[card] = -1
	}
	for _, at := range x.left {
		to := x.now[at]
		for k := range x.size(at) {
			if (to+k)%x.m.card == 0 {
				known[(to+k)/x.m.card] = to
			}
		}
	}
	for card, want := range known {
		at, e := x.h.Offs.First(card)
		if want < 0 && (at != 0 || e != api.ErrNone) || want >= 0 && (at != want || e != api.OK) {
			t.Fatalf("Offs.First(%d): %d, %v, not %d", card, at, e, want)
		}
	}
}

// checkSets asks for what each region's set remembers: just the cards of the references that lead into it, but where more than four of its sources have more than four such cards: then of just so many sources all.
func (x *trial) checkSets(t *testing.T) {
	t.Helper()
	must := x.remembered()
	perRegion := x.m.region / x.m.card
	for home := range x.m.states {
		var cards []int
		fine, coarse := 0, 0
		for _, source := range slices.Sorted(maps.Keys(must[home])) {
			list := slices.Sorted(maps.Keys(must[home][source]))
			way := x.h.Sets.Way(home, source)
			if len(list) > remset.Sparse {
				fine++
				if way == remset.InCoarse {
					coarse++
					list = nil
					for k := range perRegion {
						list = append(list, source*perRegion+k)
					}
				}
			} else if way != remset.InSparse {
				t.Fatalf("region %d remembers %d cards of %d by the way %d", home, len(list), source, way)
			}
			cards = append(cards, list...)
		}
		if l := x.h.Sets.Cards(home); !slices.Equal(l, cards) {
			t.Fatalf("region %d remembers %v, not %v", home, l, cards)
		}
		if coarse != max(fine-remset.FineMost, 0) {
			t.Fatalf("region %d remembers %d of %d sources coarsely", home, coarse, fine)
		}
	}
}

// remembered are the cards that must be: of each home by their sources.
func (x *trial) remembered() []map[int]map[int]bool {
	must := make([]map[int]map[int]bool, len(x.m.states))
	for _, at := range x.left {
		for k, w := range x.m.fields(at) {
			field, to := x.now[at]+1+k, x.m.target(x.leads(w))
			source, home := field/x.m.region, to/x.m.region
			if to < 0 || source == home {
				continue
			}
			if must[home] == nil {
				must[home] = map[int]map[int]bool{}
			}
			if must[home][source] == nil {
				must[home][source] = map[int]bool{}
			}
			must[home][source][field/x.m.card] = true
		}
	}
	return must
}

// checkTables asks for buffers without words, and that no card waits or is dirty, and no word is marked.
func (x *trial) checkTables(t *testing.T) {
	t.Helper()
	for i := range x.h.Buffers {
		b := &x.h.Buffers[i]
		if first, behind := b.Rest(); first != 0 || behind != 0 || b.Left() != 0 {
			t.Fatalf("thread %d has the words %d to %d left", i, first, behind)
		}
	}
	if x.h.Queue.Waiting() != 0 || x.h.Queue.Len() != 0 {
		t.Fatalf("there wait %v", lists(x.h))
	}
	if l := x.h.Cards.List(); len(l) > 0 {
		t.Fatalf("dirty: %v", l)
	}
	if l := x.h.Marks.List(); len(l) > 0 || x.h.Marks.Len() != len(x.m.words) {
		t.Fatalf("marked: %v of %d", l, x.h.Marks.Len())
	}
	if x.h.Config != x.m.c {
		t.Fatalf("the configuration is %+v, not %+v", x.h.Config, x.m.c)
	}
}

// checkWhole asks for a heap that is sound, and of which nothing is lost, with the shape that it had.
func (x *trial) checkWhole(t *testing.T, ahead *heap.Heap) {
	t.Helper()
	if e := x.h.Check(); e != api.OK {
		t.Fatalf("Check: %v", e)
	}
	shape, _ := ahead.Shape()
	if after, e := x.h.Shape(); !slices.Equal(after, shape) || e != api.OK {
		t.Fatalf("the shape is %v, %v, not %v", after, e, shape)
	}
	var all []int
	for r := range x.m.states {
		all = append(all, r)
		if l := x.h.Lost([]int{r}); len(l) > 0 {
			t.Fatalf("lost for %d: %v", r, l)
		}
	}
	if l := x.h.Lost(all[len(all)/2:]); len(l) > 0 {
		t.Fatalf("lost: %v", l)
	}
}

// checkBound asks that the lowest regions are used, and no more than the chapter lets be.
func (x *trial) checkBound(t *testing.T) {
	t.Helper()
	used := 0
	for r := range x.m.states {
		if x.h.Regions.State(r) == api.Free {
			continue
		}
		if used++; r >= x.regions {
			t.Fatalf("region %d is used, not %d alone", r, x.regions)
		}
	}
	small := x.words
	for _, at := range x.big {
		small -= x.size(at)
	}
	if used != x.regions || used > x.apart+(2*small)/x.m.region+1 {
		t.Fatalf("%d regions are used, %d of them for big objects, with %d words of others", used, x.apart, small)
	}
	free := 0
	for r := x.apart; r < used; r++ {
		left := x.m.base(r+1) - x.h.Regions.Top(r)
		if free += left; r < used-1 && left >= x.m.region/2 {
			t.Fatalf("the region %d has %d words left", r, left)
		}
	}
	if free+small != (used-x.apart)*x.m.region {
		t.Fatalf("%d words are free beside %d", free, small)
	}
}
