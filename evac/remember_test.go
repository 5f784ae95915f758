package evac_test

import (
	"slices"
	"testing"

	"gleaner/api"
	"gleaner/remset"
)

// wantSets asks for what each region remembers.
func wantSets(t *testing.T, what string, x *trial, want map[int][]int) {
	t.Helper()
	for r := range x.m.states {
		if l := x.h.Sets.Cards(r); !slices.Equal(l, want[r]) {
			t.Errorf("%s: region %d remembers %v, not %v", what, r, l, want[r])
		}
	}
}

// An object that leads to each kind of region, to itself and to one of an old home goes to an old region, goes to a survivor one, or is kept: what is remembered of its references, and of that one's.
func TestRememberedOfWhatWasReached(t *testing.T) {
	for _, c := range []struct {
		what         string
		fail, tenure int
		want         map[int][]int
	}{
		// The one stands at 66, the other one at 60.
		{"both are moved to old regions", 0, 0, map[int][]int{0: {8, 9}, 1: {7}, 4: {9}, 5: {9}}},
		// The one stands at 192, in a region that was claimed.
		{"one is moved to a survivor region", 0, 5, map[int][]int{3: {7}}},
		{"both are kept", 1, 5, map[int][]int{0: {16}, 1: {16}, 2: {48}, 4: {17}, 5: {17}, 6: {17}}},
	} {
		cfg := small(9)
		cfg.Fail, cfg.Tenure = c.fail, c.tenure
		m := blank(cfg)
		m.be(0, api.Old, api.Old, api.Eden, api.Free, api.HumStart, api.Old, api.Old)
		m.put(0, 60, 1)
		m.put(64, 2, 0)
		m.put(128, 15, 13, lead(0), lead(0), lead(64), 0, lead(128), 0, 0, 0, lead(256), lead(320), lead(128), lead(384), 0, lead(0))
		m.put(256, 40, 3)
		m.put(320, 60, 3)
		m.put(384, 3, 1, lead(128), lead(256))
		for _, marking := range []bool{false, true} {
			n := m.clone()
			homes := []int{2, 6}
			if marking {
				// Then the other one is young, too; what is young when it is moved is old.
				n.states[6] = api.Eden
				n.age(384, 7)
			}
			x := pause(t, n.handle(128).noteAll().lay(t), homes, marking)
			wantSets(t, c.what, x, c.want)
		}
	}
}

// References of the outside that are changed: to where the object is now its card is remembered, if that is another region; where nothing is changed nothing is remembered besides.
func TestRememberedOfTheOutside(t *testing.T) {
	for _, c := range []struct {
		what         string
		fail, tenure int
		want         map[int][]int
	}{
		// 64 goes to 20 in the region 0, 70 behind it; so of the region 0 only the big object's cards are told.
		{"moved to an old region", 0, 0, map[int][]int{0: {24, 32}, 4: {1}}},
		// They go to 128 and 134.
		{"moved to a survivor region", 0, 5, map[int][]int{2: {0, 1, 24, 32}, 4: {1}}},
		{"kept", 1, 5, map[int][]int{1: {0, 1, 24, 32}, 4: {1}}},
		// 64 is moved, to 128; 70 is kept.
		{"one is moved", 2, 5, map[int][]int{1: {0, 1, 24, 32}, 2: {0, 24}, 4: {1}}},
	} {
		cfg := small(6)
		cfg.Fail, cfg.Tenure = c.fail, c.tenure
		m := blank(cfg)
		m.be(0, api.Old, api.Eden, api.Free, api.HumStart, api.HumCont, api.HumStart)
		m.put(0, 20, 15, lead(64), 0, 0, 0, lead(70), 0, 0, 0, 0, 0, 0, lead(70))
		m.words[15] = lead(320)
		m.put(64, 6, 3)
		m.put(70, 6, 3)
		m.put(192, 100, 90, lead(64))
		m.words[258], m.words[260] = lead(70), lead(0)
		m.put(320, 33, 5)
		m.remember(1, 1, 5, 12, 193, 258).remember(4, 15)
		x := pause(t, m.chain(64, 70).noteAll().lay(t), []int{1}, true)
		wantSets(t, c.what, x, c.want)
	}
}

// A home that is freed is forgotten ahead of what is remembered anew: so it doesn't make its neighbours coarse.
func TestFreedHomesAreForgottenFirst(t *testing.T) {
	m := blank(small(8))
	m.be(0, api.Old, api.Old, api.Old, api.Old, api.Old, api.Old, api.Eden)
	m.put(0, 62, 1)
	for r := 1; r < 5; r++ {
		m.put(m.base(r), 62, 60)
		for k := range 5 {
			m.words[m.base(r)+1+8*k] = lead(0)
			m.remember(0, m.base(r)+1+8*k)
		}
	}
	m.put(320, 7, 1)
	m.put(384, 45, 44)
	for k := 1; k < 45; k++ {
		m.words[384+k] = lead(0)
	}
	x := pause(t, m.handle(384).noteAll().lay(t), []int{6, 4}, false)
	for source, want := range []remset.Way{remset.Absent, remset.InFine, remset.InFine, remset.InFine, remset.Absent, remset.InFine, remset.Absent, remset.Absent} {
		if way := x.h.Sets.Way(0, source); way != want {
			t.Errorf("the source %d is remembered in the way %d, not %d", source, way, want)
		}
	}
}

// Offs knows of each object that was moved to an old region, of each size and at each place of a card, and of no survivor; of what was there ahead it knows what it did.
func TestNotedInOffs(t *testing.T) {
	for used := 0; used < 20; used++ {
		for size := 2; size < 40; size += 3 {
			for _, tenure := range []int{1, 7} {
				c := small(4)
				c.Tenure = tenure
				m := blank(c)
				m.be(0, api.Old, api.Eden)
				if used > 0 {
					m.fill(0, used)
				}
				m.put(64, size, 1)
				m.put(64+size, 3, 1)
				x := pause(t, m.chain(64, 64+size).noteAll().lay(t), []int{1}, false)
				for card := range 32 {
					want := -1
					switch first := card * 8; {
					case first < used:
						want = 0
					case tenure == 7:
					case first < used+size:
						want = used
					case first < used+size+3:
						want = used + size
					}
					at, e := x.h.Offs.First(card)
					if want < 0 && e != api.ErrNone || want >= 0 && (at != want || e != api.OK) {
						t.Fatalf("%d used, Size %d, Tenure %d: Offs.First(%d): %d, %v, not %d", used, size, tenure, card, at, e, want)
					}
				}
			}
		}
	}
}

// A card that is dirty but doesn't wait stays dirty, of the outside and of what is kept; what waited is clean; what was freed is clean; and nothing becomes dirty.
func TestDirtyCards(t *testing.T) {
	for fail := range 2 {
		m := blank(small(5))
		m.c.Fail = fail
		m.be(0, api.Old, api.Eden, api.Old, api.Old)
		m.put(0, 30, 20, lead(64), lead(128), lead(192))
		m.put(64, 5, 2, lead(0))
		m.put(128, 5, 2, lead(64))
		m.put(192, 40, 2, lead(128))
		m.remember(1, 1).remember(2, 193)
		for card := range 40 {
			m.dirty = append(m.dirty, card)
		}
		m.pushed = [][2]int{{0, 1}, {0, 16}, {1, 30}, {1, 8}, {0, 0}, {0, 32}, {0, 1 << 40}}
		x := pause(t, m.handle(64).noteAll().lay(t), []int{1, 2}, false)
		var want []int
		for card := range 40 {
			freed := fail == 0 && (card/8 == 1 || card/8 == 2)
			if !freed && !slices.Contains([]int{0, 1, 8, 16, 30, 32}, card) {
				want = append(want, card)
			}
		}
		if l := x.h.Cards.List(); !slices.Equal(l, want) {
			t.Errorf("Fail %d: dirty: %v, not %v", fail, l, want)
		}
	}
}
