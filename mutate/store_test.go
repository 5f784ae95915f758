package mutate_test

import (
	"slices"
	"testing"

	"gleaner/api"
)

// A store's second step looks at the field if a marking goes on then, whatever was ahead and whatever is behind.
func TestMarkingTurnedBetweenTwoSteps(t *testing.T) {
	for turns := range 16 {
		for _, to := range []int{1, 0, 2} {
			x := stage(t, small())
			x.start(t, 0, store(0, 1, to)) // over a reference to itself
			steps := ""
			for n := 0; !x.m[0].Idle(); n++ {
				x.marking(turns>>uint(n)&1 == 1)
				steps += told(x.step(t, 0))
			}
			want, old := "bd", []api.Ref{}
			if turns&2 != 0 {
				want, old = "bbd", []api.Ref{1}
			}
			if steps != want || !slices.Equal(x.s.Old[0], old) || len(x.s.Old[1]) != 0 {
				t.Fatalf("%b: steps %s, wrote over %v", turns, steps, x.s.Old)
			}
		}
	}
}

// What is written over is told in its order, to the thread that writes, and only what isn't nil.
func TestWhatIsWrittenOver(t *testing.T) {
	x := stage(t, small())
	x.must(t, 0, store(0, 0, 2)) // ahead of the marking
	x.marking(true)
	x.want(t, 0, store(0, 0, 0), api.OK, "bbd") // over 65
	x.want(t, 0, store(0, 0, 1), api.OK, "bbd") // over 1
	x.want(t, 0, store(0, 0, 2), api.OK, "bbd") // over nil
	x.want(t, 1, store(0, 0, 1), api.OK, "bbd") // over 65
	x.want(t, 1, store(1, 0, 0), api.OK, "bbd") // over nil
	x.want(t, 0, store(0, 0, 0), api.OK, "bbd") // over 129
	x.want(t, 0, store(0, 0, 0), api.OK, "bbd") // over 1 by 1
	x.want(t, 0, store(0, 5, 0), api.ErrField, "d")
	x.must(t, 0, write(0, 0, 70), load(0, 0), pop)
	x.marking(false)
	x.want(t, 0, store(0, 0, 1), api.OK, "bd")
	if !slices.Equal(x.s.Old[0], []api.Ref{65, 1, 129, 1}) || !slices.Equal(x.s.Old[1], []api.Ref{65}) {
		t.Fatal(x.s.Old)
	}
	x.wantSound(t)
}

// What is told is put behind what the lists have, also when others took it away meanwhile.
func TestListsOfWhatIsWrittenOver(t *testing.T) {
	x := stage(t, small())
	x.marking(true)
	x.s.Old[0], x.p.old[0] = []api.Ref{77, 0}, []api.Ref{77, 0}
	x.want(t, 0, store(0, 1, 0), api.OK, "bbd")
	if !slices.Equal(x.s.Old[0], []api.Ref{77, 0, 1}) {
		t.Fatal(x.s.Old)
	}
	x.start(t, 0, store(0, 1, 0))
	x.step(t, 0)
	x.s.Old, x.p.old = make([][]api.Ref, 2), make([][]api.Ref, 2)
	x.rest(t, 0)
	if !slices.Equal(x.s.Old[0], []api.Ref{1}) {
		t.Fatal(x.s.Old)
	}
}

// A Shared whose lists others made fewer lets nothing panic.
func TestListsThatAreGone(t *testing.T) {
	for _, lists := range []int{0, 1} {
		x := stage(t, small())
		x.marking(true)
		x.s.Old, x.p.old = make([][]api.Ref, lists), make([][]api.Ref, lists)
		for n := range 2 {
			if e := x.m[1].Start(store(0, 1, 0)); e != api.OK {
				t.Fatal(e)
			}
			steps := told(x.m[1].Step()) + told(x.m[1].Step()) + told(x.m[1].Step())
			if steps != []string{"bbd", "bbd"}[n] {
				t.Fatal(steps)
			}
		}
	}
}

// regions lays two regions of each state that is filled word by word, with two objects each, and two big objects of two regions each; thread 0 has nil and all objects.
func regions(t *testing.T) *rig {
	t.Helper()
	x := newRig(t, api.Config{Shift: 6, Regions: 12, CardShift: 3, Threads: 2, Roots: 64, Young: 1, Queue: 3})
	x.g = nil
	x.claim(t, api.Eden, api.Eden, api.Survivor, api.Survivor, api.Old, api.Old)
	x.h.Roots[0].Push(0)
	for r := range 6 {
		for range 2 {
			x.h.Roots[0].Push(x.put(t, r, 20, 18))
		}
	}
	for range 2 {
		x.h.Roots[0].Push(x.putBig(t, 100, 90))
	}
	x.read()
	x.wantSound(t)
	return x
}

// Each field of each object, made lead to each object and to nil: to be noted is what crosses regions, but from young ones.
func TestEachPairOfRegions(t *testing.T) {
	x := regions(t)
	noted, times := map[api.RegionState]int{}, 0
	for a := 1; a < len(x.p.handles[0]); a++ {
		at := int(x.p.handles[0][a]) - 1
		for field := range ptrsOf(x.p.words[at]) {
			from := (at + 1 + field) / 64
			for c, to := range x.p.handles[0] {
				want := "bd"
				if to != 0 && from >= 4 && (int(to)-1)/64 != from {
					want = "bD-"
					noted[x.p.states[from]]++
				}
				x.want(t, 0, store(a, field, c), api.OK, want)
				times++
			}
		}
	}
	// 18 fields of each of 12 objects, 63 in the first and 27 in the second region of each big one; 15 handles.
	if times != (12*18+2*90)*15 || len(noted) != 3 || noted[api.Old] != 4*18*12 || noted[api.HumStart] != 2*63*13 || noted[api.HumCont] != 2*27*14 {
		t.Fatal(times, noted)
	}
	x.wantSound(t)
}

// A big object that leads to itself from its second region is noted, from its first one it isn't.
func TestBigObjectThatLeadsToItself(t *testing.T) {
	x := newRig(t, small())
	x.must(t, 0, alloc(100, 0))
	x.want(t, 0, store(0, 62, 0), api.OK, "bd")
	x.want(t, 0, store(0, 63, 0), api.OK, "bD-")
	if l := x.h.Cards.List(); !slices.Equal(l, []int{8}) {
		t.Fatal(l)
	}
	x.wantQueue(t, 8)
	x.wantSound(t)
}

// wide is a heap whose thread 0 has a big object with fields in the cards 0 to 23 (handle 0), and a small one in another region (1); thread 1 has both, too.
func wide(t *testing.T, bound int) *rig {
	t.Helper()
	c := small()
	c.Queue = bound
	x := newRig(t, c)
	x.must(t, 0, alloc(190, 0), alloc(1, 0), send(0, 1), send(1, 1))
	return x
}

// storeInto makes the big object's reference in a card lead to the small one: which cards are left over.
func storeInto(t *testing.T, x *rig, i, card int) []int {
	t.Helper()
	x.start(t, i, store(0, card*8, 1))
	if steps := told(x.step(t, i)) + told(x.step(t, i)); steps != "bD" {
		t.Fatal(steps)
	}
	if x.m[i].Idle() || x.m[i].Start(poll) != api.ErrShape {
		t.Fatal("a store that is yet to be noted is over")
	}
	r := x.step(t, i)
	if !x.m[i].Idle() {
		t.Fatal("a store that was noted isn't over")
	}
	return r.Left
}

// The fourth card of a thread sends all four to the common list; what has no room there is left over.
func TestCardsThatAreLeftOver(t *testing.T) {
	left := map[int][][]int{
		0: {{0, 1, 2, 3}, {4, 5, 6, 7}, {8, 9, 10, 11}},
		1: {{1, 2, 3}, {4, 5, 6, 7}, {8, 9, 10, 11}},
		3: {{3}, {4, 5, 6, 7}, {8, 9, 10, 11}},
		4: {{}, {4, 5, 6, 7}, {8, 9, 10, 11}},
		5: {{}, {5, 6, 7}, {8, 9, 10, 11}},
		8: {{}, {}, {8, 9, 10, 11}},
		9: {{}, {}, {9, 10, 11}},
	}
	for bound, want := range left {
		x := wide(t, bound)
		for card := range 12 {
			l := storeInto(t, x, 0, card)
			if card%4 < 3 && len(l) != 0 || card%4 == 3 && !slices.Equal(l, want[card/4]) {
				t.Fatalf("bound %d: the card %d leaves over %v", bound, card, l)
			}
		}
		x.wantDrained(t)
		x.wantSound(t)
	}
}

// The lists that tell what is left over share no memory with one another, nor with the queue.
func TestLeftIsNewMemory(t *testing.T) {
	x := wide(t, 1)
	var lists [][]int
	for card := range 8 {
		if l := storeInto(t, x, 0, card); len(l) > 0 {
			lists = append(lists, l)
		}
	}
	lists[0] = append(lists[0], 99, 98)
	for i := range lists[0][:cap(lists[0])] {
		lists[0][:cap(lists[0])][i] = -7
	}
	if !slices.Equal(lists[1], []int{4, 5, 6, 7}) {
		t.Fatal(lists)
	}
	x.wantSame(t)
	x.wantQueue(t, 0)
}

// Cards wait in the list of the thread that stored; a dirty one waits already, whoever stored into it; once it is clean it waits anew.
func TestCardsThatWaitAlready(t *testing.T) {
	x := wide(t, 8)
	for _, k := range [][2]int{{0, 5}, {1, 6}, {0, 6}, {1, 5}, {1, 7}, {0, 5}, {1, 7}} {
		if l := storeInto(t, x, k[0], k[1]); len(l) != 0 {
			t.Fatal(k, l)
		}
	}
	x.wantQueue(t, 5, 6, 7)
	storeInto(t, x, 0, 5) // it is dirty yet, waiting or not
	x.wantQueue(t)
	x.h.Cards.Clean(5)
	x.p.dirty[5] = false
	storeInto(t, x, 0, 5)
	x.wantQueue(t, 5)
	// One that becomes dirty between the store and its note.
	x.start(t, 0, store(0, 80, 1))
	x.step(t, 0)
	x.step(t, 0)
	storeInto(t, x, 1, 10)
	x.step(t, 0)
	x.wantQueue(t, 10)
	x.wantSound(t)
}

// A store that was answered and is yet to be noted has been done: others see it.
func TestStoreIsDoneAheadOfItsNote(t *testing.T) {
	x := wide(t, 8)
	x.start(t, 0, store(0, 0, 1))
	x.step(t, 0)
	x.want(t, 1, load(0, 0), api.OK, "bd")
	x.step(t, 0)
	x.want(t, 1, load(0, 0), api.OK, "bd")
	for handle, is := range map[int]bool{2: false, 3: true} {
		if a := x.want(t, 1, equal(1, handle), api.OK, "d"); a.Bit != is {
			t.Fatal(handle, a)
		}
	}
	if x.m[0].Idle() || x.h.Cards.Is(0) {
		t.Fatal("it was noted ahead of its step")
	}
	x.step(t, 0)
	if !x.m[0].Idle() || !x.h.Cards.Is(0) {
		t.Fatal("it wasn't noted")
	}
	x.wantSound(t)
}

// A field that another thread writes between a store's look and its write: each tells what it saw.
func TestTwoStoresIntoOneField(t *testing.T) {
	x := stage(t, small())
	x.marking(true)
	x.start(t, 0, store(0, 1, 1))
	x.start(t, 1, store(0, 1, 1))
	x.step(t, 0)
	x.step(t, 1)
	x.step(t, 0)
	x.step(t, 1)
	x.step(t, 1)
	x.step(t, 0)
	if !slices.Equal(x.s.Old[0], []api.Ref{1}) || !slices.Equal(x.s.Old[1], []api.Ref{1}) {
		t.Fatal(x.s.Old)
	}
	x.want(t, 1, load(0, 1), api.OK, "bd")
	if a := x.want(t, 1, isNil(2), api.OK, "d"); !a.Bit {
		t.Fatal(a)
	}
	x.wantSound(t)
}
