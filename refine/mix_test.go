package refine_test

import (
	"slices"
	"testing"

	"gleaner/api"
	"gleaner/buffer"
	"gleaner/heap"
	"gleaner/mutate"
	"gleaner/refine"
)

// P16.4

// life is a heap with its threads and workers, and the cards that were left over or let go.
type life struct {
	h     *heap.Heap
	s     *mutate.Shared
	m     []*mutate.Mutator
	wants []bool
	w     []*refine.Worker
	over  []int
}

func newLife(t *testing.T, h *heap.Heap, workers int) *life {
	t.Helper()
	x := &life{h: h, s: &mutate.Shared{Old: make([][]api.Ref, h.Config.Threads)}, wants: make([]bool, h.Config.Threads)}
	for i := range h.Config.Threads {
		m, e := mutate.New(h, i, x.s)
		if e != api.OK {
			t.Fatalf("a mutator: %v", e)
		}
		x.m = append(x.m, m)
	}
	for range workers {
		x.w = append(x.w, newWorker(t, h))
	}
	return x
}

func (x *life) thread(i int) mutate.Result {
	r := x.m[i].Step()
	x.wants[i] = r.Want
	x.over = append(x.over, r.Left...)
	return r
}

// worker does a worker's step, which looks at one word at most.
func (x *life) worker(t *testing.T, i int) bool {
	t.Helper()
	was, ahead := x.w[i].Busy(), x.h.Arena.Accesses()
	did := x.w[i].Step()
	if n := x.h.Arena.Accesses() - ahead; n > 1 || !was && n > 0 {
		t.Fatalf("a step looks at %d words", n)
	}
	return did
}

func (x *life) stop(i int) {
	if card := x.w[i].Stop(); card >= 0 {
		x.over = append(x.over, card)
	}
}

// settle has all threads come to rest and all workers stop, and drains all cards: no reference is lost then, for any regions, and no card is dirty.
func (x *life) settle(t *testing.T) {
	t.Helper()
	for i, m := range x.m {
		for !m.Idle() && !x.wants[i] {
			x.thread(i)
		}
	}
	for i := range x.w {
		x.stop(i)
	}
	if e := x.h.Check(); e != api.OK {
		t.Fatalf("at rest: %v", e)
	}
	if e := refine.Drain(x.h, x.over); e != api.OK {
		t.Fatalf("Drain: %v", e)
	}
	x.over = nil
	if l := x.h.Cards.List(); len(l) != 0 || x.h.Queue.Waiting() != 0 {
		t.Fatalf("dirty behind Drain: %v; %d cards wait", l, x.h.Queue.Waiting())
	}
	for r := range x.h.Geom.Regions {
		if l := x.h.Lost([]int{r}); len(l) != 0 {
			t.Fatalf("Lost(%d): %v", r, l)
		}
	}
}

// pair is an old object at 0, of five references in two cards, with two Eden ones and an old one in other regions; thread 0 has handles of all four. In thread 0's list wait three cards, so that the next one is handed over.
func pair(t *testing.T, waits bool) *life {
	t.Helper()
	c := small(4)
	c.Threads, c.Roots, c.Queue = 1, 5, 8
	m := blank(c)
	m.be(0, api.Old, api.Eden, api.Old)
	m.fill(0, 3)
	m.put(3, 10, 7)
	m.put(64, 2, 1)
	m.put(66, 3, 1)
	m.put(128, 2, 0)
	m.noteAll()
	m.dirty[0] = waits
	x := newLife(t, m.lay(t), 1)
	if waits {
		// It waits but once: behind it there are cards of young regions.
		x.h.Queue.Push(0, 0)
		x.three()
		x.h.Queue.Push(0, 8)
	}
	x.three()
	for _, at := range []int{3, 64, 66, 128} {
		x.h.Roots[0].Push(api.Ref(lead(at)))
	}
	return x
}

// three puts cards of young regions into thread 0's list, so that the next one is handed over.
func (x *life) three() {
	for x.h.Queue.Waiting()-x.h.Queue.Len() < 3 {
		x.h.Queue.Push(0, 8)
	}
}

func store(handle, field, from int) api.Op {
	return api.Op{Kind: api.OpStore, A: handle, B: field, C: from}
}

// play has a thread do two operations and a worker look at cards, their steps in one order: of each bit that is set the thread's.
func (x *life) play(t *testing.T, ops []api.Op, order, steps int) {
	t.Helper()
	next := 0
	for k := range steps {
		if order>>k&1 == 0 {
			x.worker(t, 0)
			continue
		}
		if x.m[0].Idle() && next < len(ops) {
			x.three()
			x.m[0].Start(ops[next])
			next++
		}
		x.thread(0)
	}
	x.settle(t)
}

// Two stores into a card, with and without a marking, and a worker that is at that card, or comes to it: in each order of their steps.
func TestEachMixOfStoresAndAWorker(t *testing.T) {
	const steps = 13
	for k, ops := range [][]api.Op{
		{store(0, 0, 1), store(0, 0, 3)},
		{store(0, 3, 3), store(0, 1, 2)},
		{store(0, 0, 1), store(0, 6, 1)},
		{store(0, 2, 1), store(0, 2, 0)},
	} {
		for order := range 1 << steps {
			x := pair(t, order%3 != 0)
			x.s.Marking = k == 1
			x.play(t, ops, order, steps)
		}
	}
}

// A worker that lets go of its card behind each number of steps, and takes the next one, while a thread stores.
func TestStopBetweenStores(t *testing.T) {
	for stop := range 12 {
		for order := range 1 << 10 {
			x := pair(t, true)
			x.m[0].Start(store(0, 0, 1))
			for k := range 12 {
				if k == stop {
					x.stop(0)
				}
				if order>>k&1 == 1 {
					x.thread(0)
				} else {
					x.worker(t, 0)
				}
			}
			x.settle(t)
		}
	}
}

// handle is one of a thread's handles, more often one that isn't nil.
func (d *dice) handle(h *heap.Heap, i int) int {
	n := h.Roots[i].Len()
	if n == 0 {
		return 0
	}
	for range 4 {
		k := d.below(n)
		if r, _ := h.Roots[i].At(k); r != 0 {
			return k
		}
	}
	return d.below(n)
}

// op is an operation by a rule: most may be, and most store.
func (d *dice) op(h *heap.Heap, i int) api.Op {
	o := api.Op{Kind: pick(d, []api.OpKind{1, 1, 1, 2, 2, 3, 3, 3, 3, 3, 3, 3, 3, 5, 6, 7, 7, 8, 13}), V: uint64(d.below(1 << 20))}
	if o.Kind == api.OpAlloc {
		size := 1 + d.below(pick(d, []int{6, 12, h.Geom.RegionWords / 2, h.Geom.RegionWords, 3 * h.Geom.RegionWords}))
		o.A = d.below(size + 1)
		o.B = size - o.A
		return o
	}
	o.A, o.C = d.handle(h, i), d.handle(h, i)
	r, _ := h.Roots[i].At(o.A)
	x, _ := h.Object(r)
	switch {
	case o.Kind == api.OpSend:
		o.B = d.below(h.Config.Threads)
	case o.Kind == api.OpWrite && x.Size > x.Ptrs+1:
		o.B = d.below(x.Size - x.Ptrs - 1)
	case x.Ptrs > 0:
		o.B = d.below(x.Ptrs)
	}
	return o
}

// pick has a thread or a worker do a step.
func (x *life) pick(t *testing.T, d *dice, count map[string]int) {
	t.Helper()
	if d.oneIn(2) {
		i := d.below(len(x.w))
		if x.w[i].Busy() && d.oneIn(25) {
			x.stop(i)
			count["stop"]++
		} else if x.worker(t, i) {
			count["worker"]++
		}
		return
	}
	i := d.below(len(x.m))
	switch {
	case x.wants[i] && d.oneIn(3):
		x.m[i].Fail()
		x.wants[i] = false
		count["fail"]++
	case x.m[i].Idle():
		x.m[i].Start(d.op(x.h, i))
	default:
		o := x.thread(i)
		if len(o.Left) > 0 {
			count["left over"]++
		}
		if !o.Done && !o.Busy {
			count["noted"]++
		}
		if x.w[0].Busy() {
			count["while busy"]++
		}
	}
}

// age makes an Eden region old by hand, at rest, of which Offs knows nothing; each of its cards is looked at.
func (x *life) age(t *testing.T, d *dice) {
	t.Helper()
	eden := x.h.Regions.List(api.Eden)
	if len(eden) == 0 {
		return
	}
	r := pick(d, eden)
	x.h.Retire()
	x.h.Regions.Turn(r, api.Old)
	perRegion := x.h.Geom.RegionWords / x.h.Geom.CardWords
	for card := r * perRegion; card < (r+1)*perRegion; card++ {
		if e := refine.Card(x.h, card); e != api.OK {
			t.Fatalf("Card(%d): %v", card, e)
		}
	}
}

// sweep frees by hand, at rest, the regions of a row into which nothing leads, so that cards of them wait which are others' then.
func (x *life) sweep(d *dice) int {
	h, led := x.h, map[int]bool{}
	come := func(from int, r api.Ref) {
		if to := int(r-1) / h.Geom.RegionWords; r != 0 && to != from {
			led[to] = true
		}
	}
	for _, s := range h.Roots {
		for _, r := range s.List() {
			come(-1, r)
		}
	}
	for r := range h.Geom.Regions {
		row, _ := h.Row(r)
		for _, at := range row {
			x, _ := h.Object(api.Ref(at) + 1)
			for k := range x.Ptrs {
				w, _ := h.Arena.Load(at + 1 + k)
				come(r, api.Ref(w))
			}
		}
	}
	freed := 0
	for r := range h.Geom.Regions {
		row, _ := h.Row(r)
		if len(row) == 0 || led[r] || d.oneIn(3) || slices.ContainsFunc(h.Buffers, func(b buffer.Buffer) bool { return b.Left() > 0 && has(h, b, r) }) {
			continue
		}
		o, _ := h.Object(api.Ref(row[0]) + 1)
		if h.Regions.State(r) == api.HumStart {
			for k := 1; k < h.Geom.Span(o.Size); k++ {
				h.Free(r + k)
			}
		}
		h.Free(r)
		freed++
	}
	return freed
}

// has tells whether a buffer's words lie in a region.
func has(h *heap.Heap, b buffer.Buffer, r int) bool {
	first, _ := b.Rest()
	return first/h.Geom.RegionWords == r
}

// soil has some cards be dirty, and wait, by a thread's list.
func (x *life) soil(d *dice) {
	thread := d.below(len(x.m))
	for range d.below(8) {
		card := d.below(x.h.Geom.Cards)
		if r, e := x.h.Roots[thread].At(d.handle(x.h, thread)); e == api.OK && r != 0 && !d.oneIn(3) {
			card = x.h.Geom.Card(int(r))
		}
		if changed, _ := x.h.Cards.Dirty(card); changed {
			over, _ := x.h.Queue.Push(thread, card)
			x.over = append(x.over, over...)
		}
	}
}

// Lives of many threads and workers, in heaps of many kinds, by a rule: whenever all is at rest, nothing is lost.
func TestLivesByARule(t *testing.T) {
	d := dice(1616)
	count := map[string]int{}
	for n := range 200 {
		m := d.soundHeap()
		for r, s := range m.states {
			if s == api.Old || s == api.Eden || s == api.Survivor {
				m.tops[r] = m.end(r)
			}
		}
		m.c.Threads, m.c.Roots, m.c.Queue, m.c.Young = 1+n%4, 6+d.below(10), d.below(9), 1+d.below(m.c.Regions)
		m.buffers, m.pushed = make([]piece, m.c.Threads), nil
		clear(m.dirty)
		m = pick(&d, m.ways())
		x := newLife(t, m.lay(t), 1+d.below(3))
		x.give(&d)
		for card := range m.cards() {
			x.over = append(x.over, card)
		}
		x.settle(t)
		for range 12 {
			for k := range 50 + d.below(500) {
				if k%20 == 0 {
					x.soil(&d)
				}
				x.pick(t, &d, count)
			}
			x.s.Marking = d.oneIn(2)
			x.settle(t)
			if d.oneIn(3) {
				x.age(t, &d)
			}
			count["freed"] += x.sweep(&d)
			x.settle(t)
		}
	}
	for what, least := range map[string]int{"stop": 300, "worker": 20000, "fail": 100, "left over": 100, "noted": 3000, "while busy": 3000, "freed": 100} {
		if count[what] < least {
			t.Errorf("of %s there are but %d: %v", what, count[what], count)
		}
	}
}

// give gives each thread handles of some objects.
func (x *life) give(d *dice) {
	var all []api.Ref
	for r := range x.h.Geom.Regions {
		row, _ := x.h.Row(r)
		for _, at := range row {
			if _, e := x.h.Object(api.Ref(at) + 1); e == api.OK {
				all = append(all, api.Ref(at)+1)
			}
		}
	}
	for _, s := range x.h.Roots {
		for range min(4, len(all)) {
			s.Push(pick(d, all))
		}
	}
}
