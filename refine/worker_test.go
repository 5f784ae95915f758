package refine_test

import (
	"math"
	"slices"
	"testing"

	"gleaner/api"
	"gleaner/heap"
	"gleaner/refine"
)

// P16.2

// waiting lays a heap with just these cards in the queue's common list.
func (m *model) waiting(t *testing.T, cards ...int) *heap.Heap {
	t.Helper()
	n := m.clone()
	n.c.Queue, n.pushed = len(cards), nil
	h := n.lay(t)
	for _, card := range cards {
		h.Queue.Push(0, card)
	}
	// A thread's list is handed over when it has four cards; for those that are added here there is no room.
	for h.Queue.Waiting() != len(cards) || h.Queue.Len() != len(cards) {
		h.Queue.Push(0, 0)
	}
	return h
}

func newWorker(t *testing.T, h *heap.Heap) *refine.Worker {
	t.Helper()
	w, e := refine.New(h)
	if w == nil || e != api.OK || w.Busy() {
		t.Fatalf("New: %v, %v", w, e)
	}
	return w
}

func TestNilWorker(t *testing.T) {
	made, e := refine.New(nil)
	if made != nil || e != api.ErrNil {
		t.Errorf("New: %v, %v", made, e)
	}
	for _, w := range []*refine.Worker{nil, made} {
		for range 3 {
			if w.Busy() || w.Step() || w.Stop() != -1 {
				t.Errorf("Busy %v, Step %v, Stop %d", w.Busy(), w.Step(), w.Stop())
			}
		}
	}
}

// Where nothing waits in the common list there is nothing to do, whatever waits in the threads' lists and is dirty.
func TestNothingToDo(t *testing.T) {
	m := stage().marked()
	m.pushed = [][2]int{{0, 1}, {0, 2}, {0, 3}, {1, 4}}
	h, twin := m.lay(t), m.lay(t)
	w := newWorker(t, h)
	for range 4 {
		if w.Step() || w.Busy() || w.Stop() != -1 {
			t.Fatal("a step of a worker that has nothing to do")
		}
		wantTwin(t, h, twin, "nothing to do")
	}
	if h.Arena.Accesses() != twin.Arena.Accesses() {
		t.Errorf("%d words were looked at", h.Arena.Accesses()-twin.Arena.Accesses())
	}
}

// watch is a worker of a heap, held against what its steps do to a twin of the heap.
type watch struct {
	m       *model
	h, twin *heap.Heap
	w       *refine.Worker
	card    int
	busy    bool
	left    []look
}

// step does a step, and asks that it comes to what the chapter says; false, if there was nothing to do.
func (x *watch) step(t *testing.T) bool {
	t.Helper()
	ahead := x.h.Arena.Accesses()
	did := x.w.Step()
	looked, want, wantWords := int(x.h.Arena.Accesses()-ahead), true, 0
	switch {
	case !x.busy:
		card, e := x.twin.Queue.Pop()
		want = e == api.OK
		if want {
			x.twin.Cards.Clean(card)
			x.card, x.busy = card, true
			x.left, _ = x.m.looks(card)
		}
	case len(x.left) > 0:
		wantWords = 1
		if l := x.left[0]; !l.header {
			x.m.one(x.twin, l.at)
		}
		x.left = x.left[1:]
		x.busy = len(x.left) > 0
	default:
		x.busy = false
	}
	if did != want || looked != wantWords || x.w.Busy() != x.busy {
		t.Fatalf("card %d, %d words are left: a step %v, of %d words; busy %v, not %v", x.card, len(x.left), did, looked, x.w.Busy(), x.busy)
	}
	return did
}

func (x *watch) stop(t *testing.T) {
	t.Helper()
	want := -1
	if x.busy {
		want = x.card
	}
	x.busy, x.left = false, nil
	if card := x.w.Stop(); card != want || x.w.Busy() {
		t.Fatalf("Stop: %d, not %d; busy %v", card, want, x.w.Busy())
	}
}

func newWatch(t *testing.T, m *model, h, twin *heap.Heap) *watch {
	t.Helper()
	return &watch{m: m, h: h, twin: twin, w: newWorker(t, h)}
}

// wantSteps has a worker look at one card that waits, step by step, and gives how many steps it took.
func (m *model) wantSteps(t *testing.T, card int) int {
	t.Helper()
	h, twin := m.waiting(t, card), m.waiting(t, card)
	x := newWatch(t, m, h, twin)
	steps := 0
	for x.step(t) {
		steps++
		if m.c.Shift == 6 {
			wantTwin(t, h, twin, "a step")
		}
	}
	wantTwin(t, h, twin, "all steps")
	if card < m.cards() {
		owner := m.owner(card * m.card / m.region)
		n := 0
		for r := max(owner, 0); r < len(m.states) && m.owner(r) == owner; r++ {
			n += m.region
		}
		if steps > 2+n {
			t.Fatalf("card %d: %d steps, of %d words", card, steps, n)
		}
	}
	return steps
}

func TestEachStepOfTheStage(t *testing.T) {
	for _, m := range stage().marked().ways() {
		for card := range m.cards() + 3 {
			m.wantSteps(t, card)
		}
	}
}

// How many steps cards take, written out: where Offs knows of nothing, and where it knows of all.
func TestHowManySteps(t *testing.T) {
	for k, m := range stage().ways()[:2] {
		for card, want := range map[int][2]int{
			0:  {3 + 1, 3 + 1},          // the card, two headers, a reference
			1:  {4 + 5, 3 + 5},          // of 3 and 10; 11 to 15; ahead of them that of 0
			2:  {4 + 8, 2 + 8},          // of 10; 16 to 23
			3:  {6 + 2, 4 + 2},          // of 10, 30 and 31; 24 and 25
			4:  {7 + 7, 3 + 7},          // of 31 and 33; 32 and 34 to 39
			5:  {8 + 3, 2 + 3},          // of 40; 41 to 43
			6:  {2, 2},                  // behind the row's end
			7:  {2, 2},                  // likewise
			8:  {2, 2},                  // Eden
			16: {2, 2},                  // Survivor
			24: {2 + 7, 2 + 7},          // the big object's first references
			25: {2 + 8, 2 + 8},          // the next ones
			32: {2 + 8, 2 + 8},          // those in its second region
			41: {2 + 5, 2 + 5},          // its last ones
			42: {2, 2},                  // data words, for which the header is looked at nevertheless
			47: {2, 2},                  // behind the object
			48: {2, 2},                  // a free region
			56: {2, 2},                  // an old region without objects
			68: {2 + 8, 2 + 8},          // a big object of one region: its last references
			69: {2, 2},                  // behind them
			72: {1 + 8, 1 + 8},          // four objects of two words
			76: {1 + 17 + 1, 1 + 1 + 1}, // of the last object ahead of what a buffer has left; ahead of it 16 others
			77: {2, 2},                  // what a buffer has left
			80: {2, 2}, 9999: {2, 2},    // there are no such cards
		} {
			if n := m.wantSteps(t, card); n != want[k] {
				t.Errorf("card %d, Offs %d: %d steps, not %d", card, k, n, want[k])
			}
		}
	}
}

// The most steps that a card may take: its region is full of headers and of its references.
func TestTheMostSteps(t *testing.T) {
	m := blank(api.Config{Shift: 7, Regions: 4, CardShift: 4, Threads: 1, Roots: 1, Young: 1})
	m.be(0, api.Old)
	for at := range 112 {
		m.put(at, 1, 0)
	}
	m.put(112, 16, 15)
	if n := m.wantSteps(t, 7); n != 1+128 {
		t.Errorf("%d steps", n)
	}
	m = blank(api.Config{Shift: 6, Regions: 4, CardShift: 6, Threads: 1, Roots: 1, Young: 1})
	m.be(1, api.HumStart)
	m.put(64, 64, 63)
	if n := m.wantSteps(t, 1); n != 1+64 {
		t.Errorf("%d steps", n)
	}
}

// Heaps by a rule, sound and amiss: each card, step by step.
func TestStepsByARule(t *testing.T) {
	d := dice(21)
	for range 60 {
		m := pick(&d, d.soundHeap().ways())
		for n := range 3 {
			for card := d.below(3); card < m.cards()+2; card += 1 + d.below(4) {
				m.wantSteps(t, card)
			}
			if n < 2 {
				d.breach(m)
				d.breach(m)
			}
		}
	}
}

// Where a header is none nothing is left of the card; the next one is taken.
func TestStepAtABrokenHeader(t *testing.T) {
	m := stage()
	m.words[10] = junk
	h, twin := m.waiting(t, 1, 2, 24), m.waiting(t, 1, 2, 24)
	x := newWatch(t, m, h, twin)
	for range 4 {
		x.step(t)
	}
	if x.w.Busy() || x.w.Stop() != -1 {
		t.Error("behind a header that is none")
	}
	for x.step(t) {
	}
	wantTwin(t, h, twin, "behind a header that is none")
	if !h.Sets.Has(1, 24) {
		t.Error("the card behind one of a header that is none")
	}
}

// Stop behind each number of steps: the card that the worker was busy with; once more: none; then it takes the next card.
func TestStopBehindEachStep(t *testing.T) {
	m := stage().marked()
	m.noteAll()
	for _, card := range []int{0, 1, 4, 6, 8, 31, 47, 48, 76, 80, 1 << 40} {
		for n := range 14 {
			h, twin := m.waiting(t, card, 24, 3), m.waiting(t, card, 24, 3)
			x := newWatch(t, m, h, twin)
			for range n {
				x.step(t)
			}
			x.stop(t)
			x.stop(t)
			wantTwin(t, h, twin, "Stop")
			for x.step(t) {
				wantTwin(t, h, twin, "a step behind Stop")
			}
			x.stop(t)
		}
	}
}

// Stop of a worker that has just taken its card, of each number that a queue takes.
func TestStopOfEachNumber(t *testing.T) {
	for _, card := range []int{0, 1, 79, 80, 81, 1 << 16, 1 << 31, 1 << 32, 1<<32 + 1, 1 << 58, 1 << 60, 1<<61 + 1, math.MaxInt - 1, math.MaxInt} {
		h := stage().waiting(t, card)
		w := newWorker(t, h)
		if !w.Step() || !w.Busy() || h.Queue.Waiting() != 0 {
			t.Fatalf("card %d: busy %v", card, w.Busy())
		}
		if n := w.Stop(); n != card || w.Busy() {
			t.Errorf("Stop: %d, not %d", n, card)
		}
		if w.Step() || w.Stop() != -1 {
			t.Errorf("card %d: a step behind Stop", card)
		}
	}
}

// Several workers, whose steps come in each of many orders, at several cards, some of them the same: each does what it would alone.
func TestSeveralWorkers(t *testing.T) {
	d := dice(3)
	cards := []int{4, 1, 24, 4, 0, 39, 76, 8, 80, 1, 1, 64}
	for range 300 {
		m := pick(&d, stage().marked().ways())
		h, twin := m.waiting(t, cards...), m.waiting(t, cards...)
		var all []*watch
		for range 1 + d.below(4) {
			all = append(all, newWatch(t, m, h, twin))
		}
		for busy := true; busy; {
			x := pick(&d, all)
			if d.oneIn(40) {
				x.stop(t)
			}
			x.step(t)
			busy = h.Queue.Len() > 0 || slices.ContainsFunc(all, func(x *watch) bool { return x.busy })
		}
		wantTwin(t, h, twin, "several workers")
	}
}

// A reference is looked at when its step comes, not sooner: what is stored ahead of it counts, what is stored behind it doesn't; and a card that is stored into meanwhile is dirty again, and waits once more.
func TestStoreWhileAWorkerIsBusy(t *testing.T) {
	for ahead := range 8 {
		m := stage()
		m.noteAll()
		m.words[38], m.words[39] = 0, lead(64)
		h := m.waiting(t, 4)
		w := newWorker(t, h)
		// The card, the header of 31, 32, the header of 33, 34 to 36: the reference 37 is the eighth step's.
		for range ahead + 1 {
			w.Step()
		}
		h.Arena.Store(37, lead(192))
		if changed, _ := h.Cards.Dirty(4); !changed {
			t.Fatal("the card is dirty while a worker is busy with it")
		}
		h.Queue.Push(1, 4)
		for w.Busy() {
			w.Step()
		}
		if in, out := h.Sets.Has(3, 4), h.Sets.Has(8, 4); in != (ahead < 7) || out != (ahead >= 7) {
			t.Errorf("a store behind %d steps: %v, %v", ahead+1, in, out)
		}
		if !h.Cards.Is(4) || h.Queue.Waiting() != 1 {
			t.Errorf("a store behind %d steps: dirty %v, %d wait", ahead+1, h.Cards.Is(4), h.Queue.Waiting())
		}
		if e := refine.Drain(h, nil); e != api.OK || !h.Sets.Has(3, 4) || h.Cards.Is(4) {
			t.Error(e, h.Sets.Cards(3))
		}
	}
}

// Workers of two heaps have nothing to do with one another.
func TestWorkersOfTwoHeaps(t *testing.T) {
	m := stage().marked()
	m.noteAll()
	one, other := newWatch(t, m, m.waiting(t, 4, 24), m.waiting(t, 4, 24)), newWatch(t, m, m.waiting(t, 1), m.waiting(t, 1))
	for range 40 {
		one.step(t)
		wantTwin(t, other.h, other.twin, "another heap")
		other.step(t)
		wantTwin(t, one.h, one.twin, "one heap")
	}
}
