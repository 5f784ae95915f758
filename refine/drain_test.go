package refine_test

import (
	"slices"
	"testing"

	"gleaner/api"
	"gleaner/heap"
	"gleaner/parse"
	"gleaner/refine"
)

// P16.3

func TestDrainOfANilHeap(t *testing.T) {
	for _, more := range [][]int{nil, {}, {0}, {-1, 99}, far} {
		if e := refine.Drain(nil, more); e != api.ErrNil {
			t.Errorf("Drain(%v): %v", more, e)
		}
	}
}

// The chapter's example.
func TestExample(t *testing.T) {
	h, e := heap.New(api.Config{Shift: 6, Regions: 4, CardShift: 3, Threads: 1, Roots: 4, Young: 1})
	if e != api.OK {
		t.Fatal(e)
	}
	for i, s := range []api.RegionState{api.Old, api.Eden} {
		r, _ := h.Regions.Claim(s)
		at, _ := h.Regions.Bump(r, 3)
		if e := parse.Make(h.Arena, at, 3, 1-i); e != api.OK {
			t.Fatal(e)
		}
	}
	h.Arena.Store(1, 65)
	h.Cards.Dirty(0)
	if e := refine.Drain(h, []int{0}); e != api.OK || !h.Sets.Has(1, 0) || h.Cards.Is(0) {
		t.Error(e, h.Sets.Cards(1), h.Cards.List())
	}
}

// wantDrain drains, and asks that the heap is what its twin becomes by the chapter; more stays what it is, its spare room too.
func (m *model) wantDrain(t *testing.T, h, twin *heap.Heap, more []int) api.Errno {
	t.Helper()
	room := append(slices.Clone(more), 1, 2, 3)
	e := refine.Drain(h, room[:len(more)])
	want := m.drain(twin, more)
	if e != want {
		t.Fatalf("Drain(%v): %v, not %v", more, e, want)
	}
	if !slices.Equal(room, append(slices.Clone(more), 1, 2, 3)) {
		t.Fatalf("Drain(%v): %v now", more, room)
	}
	if h.Queue.Waiting() != 0 || h.Queue.Len() != 0 {
		t.Fatalf("Drain(%v): %d cards wait", more, h.Queue.Waiting())
	}
	// What it was told it doesn't keep.
	for i := range room {
		room[i] = 24
	}
	wantTwin(t, h, twin, "Drain")
	return e
}

// Cards wait in the common list, in the threads' lists, in both and nowhere; more is empty, names cards twice, such as wait, and such as aren't there.
func TestDrainWhatWaits(t *testing.T) {
	for _, pushed := range [][][2]int{
		nil,
		{{0, 0}},
		{{1, 4}, {0, 24}},
		{{0, 0}, {0, 1}, {0, 2}, {0, 3}},
		{{1, 0}, {1, 8}, {1, 80}, {1, 31}, {1, 76}, {0, 4}, {0, 4}},
		{{0, 0}, {0, 1}, {0, 2}, {0, 3}, {0, 4}, {0, 5}, {0, 24}, {0, 25}, {1, 31}, {1, 32}, {1, 39}, {1, 1 << 60}, {1, 64}},
	} {
		for _, more := range [][]int{nil, {}, {0}, {4, 4, 4}, {0, 1, 24, 79, 78}, append([]int{80, 1, 81, -1}, far...), {1<<32 + 1, 1<<61 + 1, -1 << 61}} {
			for _, bound := range []int{0, 2, 64} {
				for _, m := range stage().marked().ways() {
					m.pushed, m.c.Queue = pushed, bound
					h, twin := m.lay(t), m.lay(t)
					if e := m.wantDrain(t, h, twin, more); e != api.OK {
						t.Fatal(e)
					}
					m.wantDrain(t, h, twin, nil)
				}
			}
		}
	}
}

// With nothing that waits and nothing more there is nothing to do, even of a heap without any header: what is dirty stays so.
func TestDrainOfNothing(t *testing.T) {
	m := stage().marked()
	for _, at := range []int{0, 192, 512, 576} {
		m.words[at] = junk
	}
	h, twin := m.lay(t), m.lay(t)
	for _, more := range [][]int{nil, {}, {80, -1}} {
		if e := refine.Drain(h, more); e != api.OK {
			t.Errorf("Drain(%v): %v", more, e)
		}
		wantTwin(t, h, twin, "nothing to drain")
	}
}

// One card of several answers ErrBroken, wherever it is named: the others are looked at, and all are clean.
func TestDrainWithABrokenCard(t *testing.T) {
	for broken := range 6 {
		for waits := range 7 {
			m := stage()
			m.noteAll()
			m.words[33] = junk
			cards := []int{0, 1, 2, 24, 31}
			cards = slices.Insert(cards, min(broken, len(cards)), 4)
			m.pushed = nil
			for _, card := range cards[:min(waits, len(cards))] {
				m.pushed = append(m.pushed, [2]int{1, card})
			}
			for _, card := range cards {
				m.dirty[card] = true
			}
			h, twin := m.lay(t), m.lay(t)
			if e := m.wantDrain(t, h, twin, cards[min(waits, len(cards)):]); e != api.ErrBroken {
				t.Fatal(e)
			}
			if l := h.Cards.List(); len(l) != 0 {
				t.Errorf("dirty: %v", l)
			}
			if l := h.Sets.Cards(1); !slices.Equal(l, []int{0, 1, 2, 24, 31}) {
				t.Errorf("remembered: %v", l)
			}
		}
	}
}

// Each of several cards answers ErrBroken: it is told as of one, and all are clean.
func TestDrainWithBrokenCardsAlone(t *testing.T) {
	m := stage()
	m.words[0], m.words[192] = junk, filler(150)
	for _, card := range []int{0, 1, 4, 24, 47} {
		m.dirty[card] = true
	}
	m.pushed = [][2]int{{0, 0}, {0, 1}}
	h, twin := m.lay(t), m.lay(t)
	if e := m.wantDrain(t, h, twin, []int{4, 24, 47, 24}); e != api.ErrBroken || len(h.Cards.List()) != 0 {
		t.Error(e, h.Cards.List())
	}
	for r := range m.states {
		if l := h.Sets.Cards(r); len(l) != 0 {
			t.Errorf("region %d remembers %v", r, l)
		}
	}
}

// Heaps by a rule, sound and amiss, with cards that wait by a rule.
func TestDrainByARule(t *testing.T) {
	d := dice(33)
	count := map[api.Errno]int{}
	for range 300 {
		m := pick(&d, d.soundHeap().ways())
		for n := range 4 {
			var more []int
			for range d.below(12) {
				more = append(more, d.below(m.cards()+2)-1)
			}
			h, twin := m.lay(t), m.lay(t)
			e := m.wantDrain(t, h, twin, more)
			count[e]++
			if n == 0 && e != api.OK {
				t.Fatalf("a sound heap: %v", e)
			}
			d.breach(m)
		}
	}
	if count[api.OK] < 300 || count[api.ErrBroken] < 100 {
		t.Error(count)
	}
}
