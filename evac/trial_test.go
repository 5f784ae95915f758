package evac_test

import (
	"maps"
	"slices"
	"testing"

	"gleaner/api"
	"gleaner/evac"
	"gleaner/heap"
	"gleaner/refine"
)

// trial is a pause of a heap, held against the chapter's words: object by object, and table by table against a twin to which just that is done what must be done.
type trial struct {
	h, twin *heap.Heap
	m       *model // the heap when buffers were dropped and cards drained
	homes   map[int]bool
	marking bool
	report  evac.Report
	reached []int       // addresses, rising
	now     map[int]int // where each of them is now
	todo    []int       // those whose references weren't gone through yet
	moved   map[int][]int
	must    [][2]int // what is remembered: homes and cards
}

// pause does a pause, which must come to what the chapter says.
func pause(t *testing.T, h *heap.Heap, homes []int, marking bool) *trial {
	t.Helper()
	x := &trial{h: h, twin: twinOf(h), homes: map[int]bool{}, marking: marking, now: map[int]int{}, moved: map[int][]int{}}
	for _, r := range homes {
		x.homes[r] = true
	}
	x.twin.Retire()
	if e := refine.Drain(x.twin, nil); e != api.OK {
		t.Fatalf("the twin: Drain: %v", e)
	}
	x.m = read(x.twin)
	x.reached = x.findReached()
	ahead := twinOf(x.twin)
	x.call(t, homes)
	x.follow(t)
	x.checkMoved(t)
	x.checkPlaces(t)
	x.checkFails(t)
	x.expect(t)
	wantTwin(t, x.h, x.twin, x.must)
	wantRows(t, x.h, x.twin)
	x.checkWhole(t, ahead)
	return x
}

// call calls Pause, and asks that what is handed in is neither changed nor kept, and that what is answered is new memory.
func (x *trial) call(t *testing.T, homes []int) {
	t.Helper()
	in := append(slices.Clone(homes), -7, -7)
	r, e := evac.Pause(x.h, in[:len(homes)], x.marking)
	if e != api.OK {
		t.Fatalf("Pause of %v, marking %v: %v", homes, x.marking, e)
	}
	if !slices.Equal(in, append(slices.Clone(homes), -7, -7)) {
		t.Fatalf("Pause changed %v to %v", homes, in)
	}
	x.report = evac.Report{Moved: r.Moved, Failed: r.Failed, Freed: slices.Clone(r.Freed), Kept: slices.Clone(r.Kept), Big: slices.Clone(r.Big)}
	all := [][]int{in, r.Freed, r.Kept, r.Big}
	for i, l := range all {
		for k := range l[:cap(l)] {
			l[:cap(l)][k] = -9
		}
		for k, other := range all[i+1:] {
			if slices.Contains(other, -9) {
				t.Fatalf("the lists %d and %d share memory", i, i+1+k)
			}
		}
	}
}

// home tells whether a word leads into a home as a reference, and to where.
func (x *trial) home(w uint64) (int, bool) {
	at := x.m.target(w)
	return at, at >= 0 && x.homes[at/x.m.region]
}

// outside are the addresses of the objects of the outside, rising.
func (x *trial) outside() []int {
	return slices.DeleteFunc(x.m.objects(api.Old, api.HumStart), func(at int) bool { return x.homes[at/x.m.region] })
}

// findReached finds what is reached, by the chapter's sentence.
func (x *trial) findReached() []int {
	reached := map[int]bool{}
	var todo []int
	come := func(w uint64) {
		if at, is := x.home(w); is && !reached[at] {
			reached[at] = true
			todo = append(todo, at)
		}
	}
	for _, l := range x.m.handles {
		for _, w := range l {
			come(w)
		}
	}
	for _, at := range x.outside() {
		for k, w := range x.m.fields(at) {
			if to, is := x.home(w); is && x.twin.Sets.Has(to/x.m.region, (at+1+k)/x.m.card) {
				come(w)
			}
		}
	}
	for len(todo) > 0 {
		at := todo[0]
		todo = todo[1:]
		for _, w := range x.m.fields(at) {
			come(w)
		}
	}
	return slices.Sorted(maps.Keys(reached))
}

// follow finds out where the objects are now, by all that led to them: and that leads to one place each.
func (x *trial) follow(t *testing.T) {
	t.Helper()
	for i, l := range x.m.handles {
		after := x.h.Roots[i].List()
		if len(after) != len(l) {
			t.Fatalf("thread %d has %d handles, not %d", i, len(after), len(l))
		}
		for k, w := range l {
			x.pair(t, w, uint64(after[k]))
		}
	}
	for _, at := range x.outside() {
		x.pairFields(t, at, at)
	}
	for len(x.todo) > 0 {
		at := x.todo[0]
		x.todo = x.todo[1:]
		x.pairFields(t, at, x.now[at])
	}
	for _, at := range x.reached {
		if _, is := x.now[at]; !is {
			t.Fatalf("nothing leads to what was at %d", at)
		}
	}
}

// pairFields holds the references of the object at an address against those of where it is now.
func (x *trial) pairFields(t *testing.T, at, to int) {
	t.Helper()
	for k, w := range x.m.fields(at) {
		x.pair(t, w, x.word(t, to+1+k))
	}
}

// pair holds a reference against what it is now.
func (x *trial) pair(t *testing.T, w, after uint64) {
	t.Helper()
	at, is := x.home(w)
	if _, is2 := slices.BinarySearch(x.reached, at); !is || !is2 {
		if after != w {
			t.Fatalf("the reference %d to what isn't reached is %d now", w, after)
		}
		return
	}
	to := x.m.target(after)
	if to < 0 {
		t.Fatalf("the reference %d is %d now", w, after)
	}
	if known, is := x.now[at]; !is {
		x.now[at] = to
		x.todo = append(x.todo, at)
	} else if known != to {
		t.Fatalf("what was at %d is at %d and at %d", at, known, to)
	}
}

func (x *trial) word(t *testing.T, at int) uint64 {
	t.Helper()
	w, e := x.h.Arena.Load(at)
	if e != api.OK {
		t.Fatalf("the word %d: %v", at, e)
	}
	return w
}

// size is the Size of the object that was at an address.
func (x *trial) size(at int) int {
	o, _ := header(x.m.words[at])
	return o.Size
}

// state is the new state of the object that was at an address, if it is moved, and age its Age then.
func (x *trial) state(at int) (state api.RegionState, age int) {
	o, _ := header(x.m.words[at])
	if x.m.states[at/x.m.region] == api.Old || o.Age+1 >= x.m.c.Tenure {
		return api.Old, 0
	}
	return api.Survivor, o.Age + 1
}

// kept tells whether the object that was at an address is there still.
func (x *trial) kept(at int) bool {
	return x.now[at] == at
}

// checkMoved asks that what was moved stands in regions of its new state that are no homes, one behind the other where there was room.
func (x *trial) checkMoved(t *testing.T) {
	t.Helper()
	for _, at := range x.reached {
		to := x.now[at]
		if x.kept(at) {
			continue
		}
		r := to / x.m.region
		if s, _ := x.state(at); x.homes[r] || x.h.Regions.State(r) != s || x.m.states[r] != api.Free && (x.m.states[r] != api.Old || s != api.Old) {
			t.Fatalf("what was at %d is at %d, in a region that was %d and is %d", at, to, x.m.states[r], x.h.Regions.State(r))
		}
		x.moved[r] = append(x.moved[r], at)
	}
	for r, list := range x.moved {
		slices.SortFunc(list, func(one, other int) int { return x.now[one] - x.now[other] })
		top := x.m.tops[r]
		for _, at := range list {
			if x.now[at] != top {
				t.Fatalf("what was at %d is at %d, not behind what is ahead of it at %d", at, x.now[at], top)
			}
			top += x.size(at)
		}
		if top > x.m.base(r+1) {
			t.Fatalf("the region %d is filled to %d", r, top)
		}
	}
}

// top is how far a region is filled that something was moved to, or that is as it was.
func (x *trial) top(r int) int {
	top := x.m.tops[r]
	for _, at := range x.moved[r] {
		top += x.size(at)
	}
	return top
}

// fits tells whether a region that takes what is moved to a state has so many words left.
func (x *trial) fits(r int, s api.RegionState, size int) bool {
	return !x.homes[r] && x.h.Regions.State(r) == s && x.m.base(r+1)-x.top(r) >= size
}

// checkPlaces asks that each object went into the lowest region that it could: since regions only get fuller, a lower one that had no room for it has none now, but one that was claimed later. And that regions were claimed only where no other one had room, the lowest ones.
func (x *trial) checkPlaces(t *testing.T) {
	t.Helper()
	for r, list := range x.moved {
		claimed := x.m.states[r] == api.Free
		for i, at := range list {
			s, _ := x.state(at)
			for p := range x.m.states {
				wasThere := x.m.states[p] == s
				lower := p < r && (wasThere || claimed && len(x.moved[p]) > 0)
				first := claimed && i == 0 && wasThere
				if (lower || first) && x.fits(p, s, x.size(at)) {
					t.Fatalf("what was at %d is at %d, though the region %d has room for it", at, x.now[at], p)
				}
			}
		}
	}
	free := x.m.list(api.Free)
	claimed := slices.DeleteFunc(slices.Sorted(maps.Keys(x.moved)), func(r int) bool { return x.m.states[r] != api.Free })
	if !slices.Equal(claimed, free[:len(claimed)]) {
		t.Fatalf("of %v the regions %v were claimed", free, claimed)
	}
}

// checkFails asks that as many moves failed as the configuration says, and others only where there was no room.
func (x *trial) checkFails(t *testing.T) {
	t.Helper()
	failed, full, claimed := 0, 0, 0
	for _, r := range x.m.list(api.Free) {
		if len(x.moved[r]) > 0 {
			claimed++
		}
	}
	for _, at := range x.reached {
		if !x.kept(at) {
			continue
		}
		failed++
		s, _ := x.state(at)
		room := claimed < len(x.m.list(api.Free))
		for r := range x.m.states {
			// A home that has become old was none that takes anything.
			room = room || x.m.states[r] != api.Free && x.m.states[r] == s && x.fits(r, s, x.size(at)) || len(x.moved[r]) > 0 && x.fits(r, s, x.size(at))
		}
		if !room {
			full++
		}
	}
	must := 0
	if x.m.c.Fail > 0 {
		must = len(x.reached) / x.m.c.Fail
	}
	if failed < must || failed-must > full {
		t.Fatalf("of %d moves %d failed, for %d of which there may have been no room, with Fail %d", len(x.reached), failed, full, x.m.c.Fail)
	}
	if x.report.Failed != failed || x.report.Moved != len(x.reached)-failed {
		t.Fatalf("%d moved, %d failed, not %d, %d", x.report.Moved, x.report.Failed, len(x.reached)-failed, failed)
	}
}

// expect does to the twin what must be done, in the chapter's order.
func (x *trial) expect(t *testing.T) {
	t.Helper()
	x.expectRegions(t)
	changed := x.expectWords()
	var kept, freed []int
	for _, r := range slices.Sorted(maps.Keys(x.homes)) {
		if slices.ContainsFunc(x.reached, func(at int) bool { return x.kept(at) && at/x.m.region == r }) {
			kept = append(kept, r)
			x.expectKept(r)
		} else {
			freed = append(freed, r)
			x.twin.Free(r)
		}
	}
	for _, at := range x.reached {
		if to := x.now[at]; x.twin.Regions.State(to/x.m.region) == api.Old {
			x.twin.Offs.Put(to, x.size(at))
			for k := range x.m.fields(at) {
				x.expectRemembered(to + 1 + k)
			}
		}
	}
	for _, field := range changed {
		x.expectRemembered(field)
	}
	big := x.expectIdle()
	if !slices.Equal(x.report.Freed, freed) || !slices.Equal(x.report.Kept, kept) || !slices.Equal(x.report.Big, big) {
		t.Fatalf("freed %v, kept %v, big %v, not %v, %v, %v", x.report.Freed, x.report.Kept, x.report.Big, freed, kept, big)
	}
}

// expectRegions has the twin's regions take what was moved.
func (x *trial) expectRegions(t *testing.T) {
	t.Helper()
	for _, r := range slices.Sorted(maps.Keys(x.moved)) {
		if x.m.states[r] == api.Free {
			s, _ := x.state(x.moved[r][0])
			if n, e := x.twin.Regions.Claim(s); n != r || e != api.OK {
				t.Fatalf("the twin: Claim: %d, %v, not %d", n, e, r)
			}
		}
		if e := x.twin.Regions.SetTop(r, x.top(r)); e != api.OK {
			t.Fatalf("the twin: SetTop(%d, %d): %v", r, x.top(r), e)
		}
	}
}

// expectWords has the twin's objects be where they are now, and handles and references lead there: those of the outside that are changed.
func (x *trial) expectWords() []int {
	for _, at := range x.reached {
		to := x.now[at]
		for k := range x.size(at) {
			x.twin.Arena.Store(to+k, x.m.words[at+k])
		}
		o, _ := header(x.m.words[at])
		age := 0
		if !x.kept(at) {
			_, age = x.state(at)
		}
		x.twin.Arena.Store(to, aged(o.Size, o.Ptrs, age))
		x.expectFields(at, to)
	}
	var changed []int
	for _, at := range x.outside() {
		changed = append(changed, x.expectFields(at, at)...)
	}
	for i, l := range x.m.handles {
		for k, w := range l {
			if to, is := x.now[x.m.target(w)]; is {
				x.twin.Roots[i].Set(k, api.Ref(lead(to)))
			}
		}
	}
	return changed
}

// expectFields has the references of what was at an address, and is at another one now, lead to where all is now: those that are changed.
func (x *trial) expectFields(at, to int) []int {
	var changed []int
	for k, w := range x.m.fields(at) {
		led := x.m.target(w)
		if now, is := x.now[led]; is {
			x.twin.Arena.Store(to+1+k, lead(now))
			if now != led {
				changed = append(changed, to+1+k)
			}
		}
	}
	return changed
}

// expectKept has a home of the twin have its kept objects alone, with fillers between them that are as great as they can be.
func (x *trial) expectKept(r int) {
	from := x.m.base(r)
	put := func(at, size int, stays bool) {
		if size > 0 && !stays {
			x.twin.Arena.Store(at, filler(size))
		}
		if size > 0 {
			x.twin.Offs.Put(at, size)
		}
	}
	for _, at := range x.reached {
		if at/x.m.region == r && x.kept(at) {
			put(from, at-from, false)
			put(at, x.size(at), true)
			from = at + x.size(at)
		}
	}
	put(from, x.m.tops[r]-from, false)
	x.twin.Regions.Turn(r, api.Old)
}

// expectRemembered has the twin remember a reference that leads into another region.
func (x *trial) expectRemembered(field int) {
	w, _ := x.twin.Arena.Load(field)
	if to := x.m.target(w); to >= 0 && to/x.m.region != field/x.m.region {
		x.twin.Sets.Add(to/x.m.region, field/x.m.card)
		x.must = append(x.must, [2]int{to / x.m.region, field / x.m.card})
	}
}

// expectIdle frees the twin's idle big objects: their first regions.
func (x *trial) expectIdle() []int {
	used := map[int]bool{}
	for _, l := range x.m.handles {
		for _, w := range l {
			used[x.m.target(w)] = true
		}
	}
	for _, at := range x.reached {
		for _, w := range x.m.fields(at) {
			used[x.m.target(w)] = true
		}
	}
	var idle []int
	for _, r := range x.m.list(api.HumStart) {
		if at := x.m.base(r); !x.marking && !used[at] && len(x.m.fields(at)) == 0 && len(x.twin.Sets.Cards(r)) == 0 {
			idle = append(idle, r)
		}
	}
	for _, first := range idle {
		for r := first; x.m.base(r) < x.m.base(first)+x.size(x.m.base(first)); r++ {
			x.twin.Free(r)
		}
	}
	return idle
}

// checkWhole asks for what follows of all that, if no reference into the homes was lost, nor one to a big object that nothing else told of.
func (x *trial) checkWhole(t *testing.T, ahead *heap.Heap) {
	t.Helper()
	if l := x.h.Regions.List(api.Eden); len(l) > 0 {
		t.Fatalf("Eden: %v", l)
	}
	homes := slices.Sorted(maps.Keys(x.homes))
	if len(ahead.Lost(slices.Concat(homes, x.report.Big))) > 0 {
		return
	}
	if e := x.h.Check(); e != api.OK {
		t.Fatalf("Check: %v", e)
	}
	shape, _ := ahead.Shape()
	if after, e := x.h.Shape(); !slices.Equal(after, shape) || e != api.OK {
		t.Fatalf("the shape is %v, %v, not %v", after, e, shape)
	}
	groups := [][]int{homes, x.report.Kept, x.m.list(api.Old), x.m.list(api.Old, api.HumStart), x.m.list(api.Free), x.m.list(api.HumStart, api.Free, api.Eden), nil}
	for r := range x.m.states {
		groups = append(groups, []int{r}, []int{r, (r*5 + 3) % len(x.m.states)})
	}
	for _, g := range groups {
		if len(ahead.Lost(g)) == 0 && len(x.h.Lost(g)) > 0 {
			t.Fatalf("lost for %v: %v", g, x.h.Lost(g))
		}
	}
}
