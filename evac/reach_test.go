package evac_test

import (
	"slices"
	"testing"

	"gleaner/api"
)

// wantReached pauses a heap, and asks for what is reached.
func wantReached(t *testing.T, m *model, homes []int, want ...int) *trial {
	t.Helper()
	x := pause(t, m.lay(t), homes, false)
	if !slices.Equal(x.reached, want) {
		t.Fatalf("of %v there are reached %v, not %v", homes, x.reached, want)
	}
	if x.report.Moved+x.report.Failed != len(want) {
		t.Fatalf("%d moved, %d failed, of %d", x.report.Moved, x.report.Failed, len(want))
	}
	return x
}

// What is reached of the stage, with each set of old homes: by handles, by the outside, and by what is reached. The card of the reference to 64 in 195's object waits, that of the one to 516 in 192's is remembered.
func TestReachedOfTheStage(t *testing.T) {
	m := stage()
	young := []int{64, 68, 75, 128, 131, 512, 516}
	wantReached(t, m, []int{1, 2, 8}, append(young[:2:2], 70, 75, 128, 131, 512, 516)...)
	m.words[7] = 0
	wantReached(t, m, []int{1, 2, 8}, young...)
	wantReached(t, m, []int{1, 8, 2, 9}, append(slices.Clone(young), 576)...)
	wantReached(t, m, []int{3, 1, 8, 2}, 64, 68, 75, 128, 131, 192, 512, 516)
	wantReached(t, m, []int{3, 1, 8, 0, 2}, 0, 14, 64, 68, 75, 128, 131, 192, 512, 516)
	m.handles[0] = []uint64{lead(195)}
	wantReached(t, m, []int{3, 1, 8, 0, 2}, 0, 14, 64, 68, 75, 128, 131, 192, 195, 512, 516)
}

// scene is four objects in a home, the region 2, one each in an old home and in an old region of the outside, 0 and 1, and a big one in 4.
func scene() *model {
	m := blank(small(8))
	m.be(0, api.Old, api.Old, api.Eden, api.Survivor, api.HumStart)
	m.put(0, 9, 8)
	m.put(64, 9, 8)
	m.put(128, 4, 3)
	m.put(132, 4, 3)
	m.put(136, 4, 3)
	m.put(140, 4, 3)
	m.put(192, 4, 3)
	m.put(256, 60, 50)
	return m.noteAll()
}

// Each way to be reached, alone and together: by a handle, by a remembered reference of an old or big object of the outside, by what is reached, by itself, in a ring.
func TestEachWayToBeReached(t *testing.T) {
	homes := []int{2, 0, 3}
	m := scene()
	wantReached(t, m, homes)

	m = scene().handle(132)
	wantReached(t, m, homes, 132)

	m = scene()
	m.words[65] = lead(132)
	wantReached(t, m, homes)
	wantReached(t, m.clone().remember(2, 65), homes, 132)
	wantReached(t, m.clone().remember(3, 65), homes)
	wantReached(t, m.clone().remember(2, 63, 72, 127), homes)

	m = scene()
	m.words[300] = lead(136)
	wantReached(t, m, homes)
	wantReached(t, m.clone().remember(2, 300), homes, 136)
	wantReached(t, m.clone().remember(2, 256, 295, 304), homes)

	m = scene().handle(128)
	m.words[129], m.words[131], m.words[133] = lead(192), lead(140), lead(128)
	wantReached(t, m, homes, 128, 140, 192)
	m.words[194] = lead(0)
	wantReached(t, m, homes, 0, 128, 140, 192)
	m.words[1] = lead(132)
	wantReached(t, m, homes, 0, 128, 132, 140, 192)
	wantReached(t, m, []int{2, 3}, 128, 140, 192)
	wantReached(t, m.clone().remember(2, 1), []int{2, 3}, 128, 132, 140, 192)
	wantReached(t, m.clone().remember(2, 1), homes, 0, 128, 132, 140, 192)

	m = scene()
	m.words[133] = lead(132)
	wantReached(t, m, homes)
	wantReached(t, m.clone().handle(132), homes, 132)
	m.words[135], m.words[193], m.words[1] = lead(192), lead(0), lead(132)
	wantReached(t, m, homes)
	wantReached(t, m.clone().handle(0), homes, 0, 132, 192)
	wantReached(t, m.clone().handle(192, 192, 132), homes, 0, 132, 192)
	m.words[65], m.words[300] = lead(132), lead(132)
	wantReached(t, m.clone().remember(2, 65, 300).handle(132), homes, 0, 132, 192)
	m.handles[1] = []uint64{0, lead(132)}
	wantReached(t, m, homes, 0, 132, 192)
}

// What isn't reached: what a data word leads to, an object that isn't reached, a filler's words, what lies behind a row, what is remembered of a region that is free now.
func TestWhatIsNotReached(t *testing.T) {
	homes := []int{2, 0, 3}
	m := scene()
	m.put(64, 9, 7)
	m.words[72] = lead(128) // a data word
	m.fill(73, 5)
	m.words[75] = lead(128)
	m.words[100] = lead(128)
	m.words[133] = lead(128)
	m.words[307] = lead(128)
	m.words[315] = lead(128)
	m.words[330] = lead(128)
	m.remember(2, 72, 75, 100, 307, 315, 330, 193, 1)
	m.words[1], m.words[193] = lead(128), lead(128)
	m.note(73, 5)
	wantReached(t, m, homes)
	wantReached(t, m.clone().handle(64, 256, 0), homes, 0, 128)
}

// A card that waits is looked at ahead: what its references lead to is reached. One that is dirty but doesn't wait isn't.
func TestReachedByCardsThatWait(t *testing.T) {
	homes := []int{2, 0, 3}
	m := scene()
	m.words[65], m.words[300], m.words[72] = lead(132), lead(140), lead(136)
	m.dirty = []int{8, 9, 37}
	wantReached(t, m, homes)
	for count := 1; count < 10; count++ {
		n := m.clone()
		for k := range count {
			n.pushed = append(n.pushed, [2]int{k % 2, []int{8, 9, 37}[k%3]})
		}
		want := [][]int{{132}, {132, 136}, {132, 136, 140}}[min(count, 3)-1]
		x := wantReached(t, n, homes, want...)
		if l, left := x.h.Cards.List(), []int{8, 9, 37}[min(count, 3):]; !slices.Equal(l, left) {
			t.Errorf("dirty: %v, not %v", l, left)
		}
	}
}

// A source that is remembered coarsely: each of its cards is.
func TestReachedByCoarseCards(t *testing.T) {
	m := blank(small(9))
	m.be(0, api.Eden, api.Old, api.Old, api.Old, api.Old, api.Old)
	m.put(0, 2, 1)
	m.put(2, 2, 1)
	for r := 1; r < 6; r++ {
		m.put(m.base(r), 62, 60)
		for k := range 5 {
			m.remember(0, m.base(r)+8*k)
		}
	}
	m.words[64+60], m.words[128+60] = lead(0), lead(2)
	m.noteAll()
	// The source 1 is coarse, since the fifth became fine.
	x := wantReached(t, m, []int{0}, 0)
	if w, _ := x.h.Arena.Load(128 + 60); w != lead(2) {
		t.Errorf("what leads to what isn't reached is %d", w)
	}
	// What has become coarse by the cards that wait is remembered, too.
	n := m.clone()
	n.sets = n.sets[:len(n.sets)-1]
	wantReached(t, n, []int{0})
	n.words[m.base(5)+40] = lead(0)
	n.pushed = [][2]int{{0, 45}}
	wantReached(t, n, []int{0}, 0)
}

// References of the outside that aren't remembered lead to where an object is that is reached otherwise, and are remembered then.
func TestReferencesThatAreNotRemembered(t *testing.T) {
	for fail := range 2 {
		m := scene()
		m.c.Fail, m.c.Tenure = fail, 5
		m.words[66], m.words[280], m.words[67] = lead(132), lead(132), lead(136)
		x := wantReached(t, m.handle(132), []int{2, 0, 3}, 132)
		to := x.now[132]
		for _, field := range []int{66, 280} {
			if w, _ := x.h.Arena.Load(field); w != lead(to) {
				t.Errorf("the reference at %d is %d", field, w)
			}
			if has := x.h.Sets.Has(to/64, field/8); has != (fail == 0) {
				t.Errorf("the reference at %d is remembered: %v", field, has)
			}
		}
		if w, _ := x.h.Arena.Load(67); w != lead(136) {
			t.Errorf("what leads to what isn't reached is %d", w)
		}
	}
}

// Homes with no object at all, with fillers alone, with objects none of which is reached: all are freed, young or old.
func TestHomesOfNothing(t *testing.T) {
	m := blank(small(10))
	m.be(0, api.Eden, api.Survivor, api.Old, api.Eden, api.Survivor, api.Old, api.Eden, api.Survivor, api.Old, api.Old)
	m.fill(192, 10)
	m.fill(256, 64)
	m.fill(320, 3)
	m.fill(323, 4)
	m.put(384, 4, 3, lead(448))
	m.put(448, 4, 3, lead(384))
	m.put(512, 4, 3, lead(384))
	m.tops[0] = 64
	m.buffers[0] = piece{0, 0, 64}
	m.put(576, 5, 4)
	x := wantReached(t, m.handle(576).noteAll(), []int{8, 7, 6, 5, 4, 3, 2, 1, 0})
	if !slices.Equal(x.report.Freed, []int{0, 1, 2, 3, 4, 5, 6, 7, 8}) || len(x.report.Kept) > 0 {
		t.Errorf("%+v", x.report)
	}
}
