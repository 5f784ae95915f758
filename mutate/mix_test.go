package mutate_test

import (
	"slices"
	"testing"

	"gleaner/api"
)

// P15.4

// share is operations that meet: in objects that two threads have, in one another's stacks, in buffers and in free regions.
var share = []api.Op{
	alloc(1, 2), alloc(2, 29), alloc(10, 40), alloc(0, 127), alloc(0, 0),
	load(0, 0), load(0, 1), load(1, 0), load(0, 9),
	store(0, 0, 0), store(0, 0, 1), store(0, 1, 1), store(2, 3, 0), store(2, 49, 1), store(2, 49, 2),
	read(0, 0), read(0, 1), write(0, 0, 1), write(0, 0, 2), write(0, 1, 0),
	null, pop, dup(0), equal(0, 2), isNil(1), poll,
	send(0, 0), send(0, 1), send(2, 0), send(2, 1),
}

// mixes are all orders of so many steps of one thread and of another.
func mixes(one, other int) [][]int {
	if one+other == 0 {
		return [][]int{nil}
	}
	var all [][]int
	if one > 0 {
		for _, l := range mixes(one-1, other) {
			all = append(all, append(l, 0))
		}
	}
	if other > 0 {
		for _, l := range mixes(one, other-1) {
			all = append(all, append(l, 1))
		}
	}
	return all
}

// meeting is a heap in which two threads have the same three objects, one of them big, and room for one or for two handles more.
func meeting(t *testing.T, room int) *rig {
	t.Helper()
	c := small()
	c.Roots, c.Regions, c.Queue = 3+room, 5, 1
	x := newRig(t, c)
	x.must(t, 0, alloc(2, 2), alloc(1, 1), alloc(50, 10), write(0, 1, 9), store(0, 1, 1), store(1, 0, 0), send(0, 1), send(1, 1), send(2, 1))
	x.must(t, 1, store(2, 7, 0))
	x.wantDrained(t)
	return x
}

// Each two operations, their steps in each order, with and without a marking: answers, words, handles, shape.
func TestEachMixOfTwoOperations(t *testing.T) {
	for _, marking := range []bool{false, true} {
		for n, one := range share {
			for k, other := range share {
				for _, order := range mixes(steps(one, marking), steps(other, marking)) {
					x := meeting(t, 1+(n+k)%2)
					x.marking(marking)
					x.start(t, 0, one)
					x.start(t, 1, other)
					for _, i := range order {
						x.step(t, i)
					}
					x.park(t)
					x.wantDrained(t)
				}
			}
		}
	}
}

// steps is how many an operation takes at most.
func steps(o api.Op, marking bool) int {
	switch {
	case o.Kind == api.OpStore && marking:
		return 4
	case o.Kind == api.OpStore:
		return 3
	case o.Kind <= api.OpWrite:
		return 2
	}
	return 1
}

// Three threads write, read and send one another's, in each order of their six steps.
func TestEachMixOfThreeThreads(t *testing.T) {
	c := small()
	c.Threads = 3
	for n := range 3 * 3 * 3 * 3 * 3 * 3 {
		for _, k := range [][3]api.Op{
			{write(0, 0, 1), write(0, 0, 2), read(0, 0)},
			{store(0, 0, 1), store(0, 0, 0), load(0, 0)},
			{send(1, 2), send(1, 2), load(0, 0)},
			{alloc(0, 9), alloc(0, 31), send(0, 0)},
		} {
			x := newRig(t, c)
			x.must(t, 0, alloc(1, 1), null, send(0, 1), send(1, 1), send(0, 2), send(1, 2))
			for i, o := range k {
				x.start(t, i, o)
			}
			for order, left := n, 6; left > 0; order, left = order/3, left-1 {
				x.step(t, order%3)
			}
			x.park(t)
		}
	}
}

// one is an operation by chance: most may be, some may not, of each kind.
func (d *dice) one(p *model, i int) api.Op {
	kinds := []api.OpKind{1, 1, 1, 1, 2, 2, 2, 3, 3, 3, 3, 3, 3, 3, 3, 4, 4, 4, 5, 5, 5, 6, 7, 7, 7, 7, 8, 9, 10, 11, 12, 13, 13, 14}
	o := api.Op{Kind: pick(d, kinds), V: uint64(d.below(1 << 20))}
	if o.Kind == api.OpAlloc {
		o.A, o.B = d.sizes(p)
		return o
	}
	o.A, o.B, o.C = d.handle(p, i), d.below(4), d.handle(p, i)
	if o.Kind == api.OpSend {
		o.B = d.below(p.c.Threads)
	} else if o.Kind == api.OpEqual {
		o.B = d.handle(p, i)
	} else if p.has(i, o.A) && p.handles[i][o.A] != 0 {
		w := p.words[p.handles[i][o.A]-1]
		o.B = d.below(max(ptrsOf(w), 1))
		if o.Kind == api.OpRead || o.Kind == api.OpWrite {
			o.B = d.below(max(sizeOf(w)-1-ptrsOf(w), 1))
		}
	}
	if d.oneIn(20) {
		o.B = pick(d, far)
	}
	return o
}

func (d *dice) handle(p *model, i int) int {
	if d.oneIn(25) {
		return pick(d, far)
	}
	// One that isn't nil is to be told more often.
	handle := d.below(max(len(p.handles[i]), 1))
	for range 3 {
		if p.has(i, handle) && p.handles[i][handle] == 0 {
			handle = d.below(len(p.handles[i]))
		}
	}
	return handle
}

// sizes are the references and data words of a new object: few, up to half a region, big, too many.
func (d *dice) sizes(p *model) (int, int) {
	most := pick(d, []int{8, 8, 8, 8, p.region / 2, p.region / 2, p.region, 3 * p.region, p.greatest() + 2})
	size := 1 + d.below(most)
	refs := d.below(size)
	if d.oneIn(40) {
		refs = pick(d, far)
	}
	return refs, size - 1 - refs
}

// reached are the addresses of what handles lead to, by references of references too, the big ones ahead, else in an order by chance.
func (d *dice) reached(p *model) []int {
	var all []int
	come := func(r uint64) {
		if r != 0 && !slices.Contains(all, int(r)-1) {
			all = append(all, int(r)-1)
		}
	}
	for _, l := range p.handles {
		for _, r := range l {
			come(uint64(r))
		}
	}
	for k := 0; k < len(all); k++ {
		at := all[k]
		for field := range ptrsOf(p.words[at]) {
			come(p.words[at+1+field])
		}
	}
	for k := range all {
		other := k + d.below(len(all)-k)
		all[k], all[other] = all[other], all[k]
	}
	big := func(at int) int { return min(1, 2*sizeOf(p.words[at])/(p.region+1)) }
	slices.SortStableFunc(all, func(a, b int) int { return big(b) - big(a) })
	return all
}

// plan tells where objects go, one behind the other from the first region on; false, if there is no room for them so.
func plan(p *model, all []int) (map[uint64]int, bool) {
	to, next := map[uint64]int{}, 0
	for _, at := range all {
		size := sizeOf(p.words[at])
		if left := p.region - next%p.region; next%p.region != 0 && (size > left || 2*size > p.region) {
			next += left
		}
		to[uint64(at)+1] = next
		next += size
		if 2*size > p.region {
			next = (next + p.region - 1) / p.region * p.region
		}
	}
	return to, next <= p.c.Regions*p.region
}

// move moves by hand all that can be come to, as a pause may, and frees all else; nothing, if there is no room for it so.
func (x *rig) move(t *testing.T, d *dice) {
	t.Helper()
	all := d.reached(x.p)
	to, fits := plan(x.p, all)
	if !fits {
		return
	}
	was := slices.Clone(x.p.words)
	x.h.Retire()
	for r := range x.h.Geom.Regions {
		x.h.Free(r)
	}
	x.read()
	x.scribble(d)
	last := -1
	for _, at := range all {
		size, new := sizeOf(was[at]), to[uint64(at)+1]
		if 2*size > x.p.region {
			x.putBig(t, size, 0)
		} else {
			if r := new / x.p.region; r != last {
				x.claim(t, pick(d, []api.RegionState{api.Survivor, api.Old, api.Old, api.Old}))
				last = r
			}
			x.put(t, last, size, 0)
		}
		for k, w := range was[at : at+size] {
			if w != 0 && k > 0 && k <= ptrsOf(was[at]) {
				w = uint64(to[w]) + 1
			}
			x.h.Arena.Store(new+k, w)
		}
	}
	for i, l := range x.p.handles {
		for k, r := range l {
			if r != 0 {
				x.h.Roots[i].Set(k, api.Ref(to[uint64(r)]+1))
			}
		}
	}
	x.read()
}

// pause does by hand what may be done to a heap at rest: cards are looked at, buffers dropped, young regions become others, objects are moved.
func (x *rig) pause(t *testing.T, d *dice) {
	t.Helper()
	x.park(t)
	x.wantDrained(t)
	for card := range x.p.dirty {
		x.h.Cards.Clean(card)
	}
	for i := range x.s.Old {
		x.s.Old[i], x.p.old[i] = nil, nil
	}
	x.marking(d.oneIn(2))
	if d.oneIn(3) {
		x.h.Retire()
	}
	for _, r := range x.h.Regions.List(api.Eden) {
		if d.oneIn(2) {
			x.h.Regions.Turn(r, pick(d, []api.RegionState{api.Survivor, api.Old}))
		}
	}
	x.read()
	if !d.oneIn(3) {
		x.move(t, d)
	}
	x.wantSame(t)
	x.wantSound(t)
}

// live has threads do operations for so many picks, the steps of all mixed.
func (x *rig) live(t *testing.T, d *dice, picks int, count map[string]int) {
	t.Helper()
	for range picks {
		x.pick(t, d, count)
		if d.oneIn(500) || wantsAll(x.p) && d.oneIn(5) {
			x.pause(t, d)
			count["pause"]++
		}
	}
	x.pause(t, d)
}

func wantsAll(p *model) bool {
	return !slices.ContainsFunc(p.turns, func(w turn) bool { return !w.wants })
}

// pick has a thread do what it can, and counts what that came to.
func (x *rig) pick(t *testing.T, d *dice, count map[string]int) {
	t.Helper()
	i := d.below(len(x.m))
	if d.oneIn(15) {
		x.marking(!x.s.Marking)
	}
	switch {
	case d.oneIn(30) || x.p.turns[i].wants && d.oneIn(6):
		if a, _ := x.fail(t, i); a.Code != api.OK {
			count["fail"]++
		}
	case x.m[i].Idle() && !d.oneIn(20):
		x.start(t, i, d.one(x.p, i))
	default:
		o := x.p.turns[i].o
		r := x.step(t, i)
		count[told(r)]++
		if r.Done && r.Answer.Code == api.OK {
			count["ok"+string(rune('a'+o.Kind))]++
		} else if r.Done {
			count[r.Answer.Code.Error()]++
		}
		if len(r.Left) > 0 {
			count["left"]++
		}
	}
	if x.atRest() {
		x.wantSound(t)
	}
}

// Lives of many threads, in heaps of many kinds, by a rule: each step, each answer, and the shape whenever the heap is at rest.
func TestLivesByARule(t *testing.T) {
	count := map[string]int{}
	d := dice(15)
	for n := range 250 {
		shift := 6 + d.below(2)
		regions := 3 + d.below(9)
		c := api.Config{
			Shift: shift, Regions: regions, CardShift: 3 + d.below(1+d.below(shift-2)), Threads: 1 + n%5, Roots: 2 + d.below(12),
			Young: 1 + d.below(regions), Queue: d.below(6),
		}
		x := newRig(t, c)
		x.scribble(&d)
		x.live(t, &d, 1200, count)
	}
	for _, what := range []string{
		"b", "d", "D", "-", "w", "left", "fail", "pause", "E2", "E10", "E11", "E12", "E13", "E14", "E15", "E17",
		"okb", "okc", "okd", "oke", "okf", "okg", "okh", "oki", "okj", "okk", "okl", "okm", "okn",
	} {
		if count[what] < 40 {
			t.Errorf("of %s there are but %d: %v", what, count[what], count)
		}
	}
}

// Two heaps, each with its threads, have nothing to do with one another.
func TestTwoHeaps(t *testing.T) {
	d := dice(4)
	count := map[string]int{}
	one := small()
	other := api.Config{Shift: 7, Regions: 4, CardShift: 4, Threads: 3, Roots: 5, Young: 1, Queue: 2}
	for range 10 {
		for _, two := range [][]*rig{{newRig(t, one), newRig(t, one)}, {newRig(t, one), newRig(t, other)}} {
			for range 600 {
				two[0].pick(t, &d, count)
				two[1].wantSame(t)
				two[1].pick(t, &d, count)
				two[0].wantSame(t)
				if d.oneIn(50) {
					two[d.below(2)].pause(t, &d)
				}
			}
		}
	}
}

// A thread sends the next one its only handle of an object, and pops it: the next one reads it, wherever it was moved to.
func TestObjectsHandedOn(t *testing.T) {
	c := small()
	c.Threads = 5
	d := dice(9)
	for n := range 40 {
		x := newRig(t, c)
		x.must(t, 0, alloc(1, 1), store(0, 0, 0), write(0, 0, uint64(n)))
		for i := range 4 {
			x.must(t, i, send(0, i+1), pop)
			x.pause(t, &d)
			x.must(t, i+1, load(0, 0))
			if a := x.want(t, i+1, equal(0, 1), api.OK, "d"); !a.Bit {
				t.Fatal(n, i, a)
			}
			x.must(t, i+1, pop)
			if a := x.want(t, i+1, read(0, 0), api.OK, "bd"); a.Word != uint64(n+i) {
				t.Fatal(n, i, a)
			}
			x.must(t, i+1, write(0, 0, uint64(n+i+1)))
		}
		x.wantSound(t)
	}
}
