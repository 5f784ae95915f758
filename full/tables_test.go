package full_test

import (
	"slices"
	"testing"

	"gleaner/api"
	"gleaner/buffer"
	"gleaner/remset"
)

// P20.1: no buffer has words: of each number of words taken, of one thread or of several, in one region or in several, or in regions that aren't there any more. What a buffer has left ends its region's row.
func TestBuffers(t *testing.T) {
	for taken := range 33 {
		c := small(5)
		c.Threads = 3
		m := blank(c)
		m.be(0, api.Old, api.Eden, api.Eden)
		m.put(0, 9, 1, lead(64))
		m.put(64, 32, 31, lead(64))
		m.be(1, api.Eden)
		m.put(128, 20, 1)
		for at := 96; at < 96+taken; at++ {
			m.put(at, 1, 0)
			m.handles[at%3] = append(m.handles[at%3], lead(at))
		}
		m.tops[1], m.tops[2] = 128, 192
		m.buffers = []piece{{96, taken, 128}, {148, 0, 192}, {64 * (taken % 5), taken, 64*(taken%5) + taken}}
		x := compact(t, m.handle(0).lay(t))
		if x.words != 41+taken {
			t.Errorf("%d words, with %d taken", x.words, taken)
		}
	}
	// Two buffers in one region: the lower one ends the row.
	m := blank(small(3))
	m.be(1, api.Survivor)
	m.put(64, 5, 0)
	m.tops[1] = 128
	m.buffers = []piece{{80, 8, 100}, {66, 3, 70}}
	if x := compact(t, m.handle(64).lay(t)); x.words != 5 {
		t.Errorf("%d words", x.words)
	}
	// One that is wholly taken, or is in a free region.
	h := blank(small(3)).lay(t)
	h.Buffers[0], _ = buffer.New(70, 90)
	h.Buffers[1], _ = buffer.New(5, 9)
	h.Buffers[1].Take(4)
	compact(t, h)
}

// P20.1: no card waits, in whatever list of whichever thread it does, and what waits isn't looked at: it remembers nothing.
func TestCardsThatWait(t *testing.T) {
	for count := range 24 {
		for _, bound := range []int{0, 1, 4, 5, 9, 100} {
			c := small(4)
			c.Threads, c.Queue = 1+count%5, bound
			m := blank(c)
			m.be(0, api.Old, api.Eden, api.Old)
			m.put(0, 20, 19, lead(64))
			m.put(64, 4, 1, lead(128))
			m.put(128, 31, 30)
			m.words[140] = lead(64)
			for k := range count {
				m.pushed = append(m.pushed, [2]int{k % c.Threads, []int{0, 1, 17, 8, 31, 99}[k%6]})
			}
			h := m.handle(0).lay(t)
			for range count % 3 {
				h.Queue.Pop()
			}
			compact(t, h)
		}
	}
}

// P20.1: no card is dirty, no word marked, whichever were: of each one alone, of all, of regions that are used ahead, behind, or never.
func TestDirtyCardsAndMarkedWords(t *testing.T) {
	for k := range 65 {
		m := blank(small(4))
		m.be(1, api.Old, api.Eden)
		m.put(64, 30, 5, lead(128))
		m.put(128, 30, 20, lead(64))
		switch {
		case k < 32:
			m.dirty, m.marks = []int{k}, []int{k * 8, k*8 + 7}
		case k < 64:
			m.dirty, m.marks = []int{k - 32, 63 - k, 0}, []int{(k-32)*8 + k%8, 0, 255}
		default:
			for at := range m.words {
				m.dirty, m.marks = append(m.dirty, at/8), append(m.marks, at)
			}
		}
		compact(t, m.handle(64).lay(t))
	}
}

// P20.1: of what Offs knew nothing is left, wherever: of free regions, of words behind the last object, of a big object's.
func TestWhatOffsKnew(t *testing.T) {
	for k := range 5 {
		m := blank(small(6))
		m.be(1, api.Eden, api.HumStart, api.HumCont, api.Old)
		m.put(64, 29, 4, lead(128))
		m.put(128, 100, 4)
		m.put(256, 9, 8, lead(64))
		m.put(265, 9, 8)
		m.noteAll()
		for card := range m.known {
			switch k {
			case 1:
				m.known[card] = 0
			case 2:
				m.known[card] = card * 8
			case 3:
				m.known[card] = card*8 - card%5
			case 4:
				m.known[card] = -1
			}
		}
		x := compact(t, m.handle(256).lay(t))
		for card := range 48 {
			at, e := x.h.Offs.First(card)
			want := []int{0, 0, 0, 0, 0, 0, 0, 0, 0, 0, 0, 0, 0, -1, -1, -1, 128, 128, 128, 128, 157}
			if card >= len(want) || want[card] < 0 {
				if at != 0 || e != api.ErrNone {
					t.Fatalf("Offs.First(%d): %d, %v", card, at, e)
				}
			} else if at != want[card] || e != api.OK {
				t.Fatalf("Offs.First(%d): %d, %v", card, at, e)
			}
		}
	}
}

// P20.1: Tams of each region is its first word, wherever it was.
func TestTams(t *testing.T) {
	for k := range 65 {
		m := blank(small(5))
		m.be(0, api.Old, api.Eden, api.Survivor, api.Old)
		for r := range 4 {
			m.put(64*r, 20, 3)
			m.tams[r] = 64*r + (k*(r+1))%65
			m.handle(64 * r)
		}
		compact(t, m.lay(t))
	}
}

// P20.1: what was remembered, by whatever region and in whatever way, is forgotten, but for what must be.
func TestWhatWasRemembered(t *testing.T) {
	for _, perSource := range []int{1, 4, 5, 8} {
		for sources := range 9 {
			m := blank(small(9))
			m.be(3, api.Old, api.Old)
			m.put(192, 9, 8)
			m.put(256, 9, 8, lead(192))
			for home := range 9 {
				for source := range sources {
					for k := range perSource {
						if source != home {
							m.sets = append(m.sets, [2]int{home, source*8 + k})
						}
					}
				}
			}
			x := compact(t, m.handle(256, 192).lay(t))
			for home := range 9 {
				if l := x.h.Sets.Cards(home); len(l) > 0 {
					t.Fatalf("region %d remembers %v", home, l)
				}
			}
		}
	}
}

// P20.1: references that lead into another region, at each word of an object, from below and above: the card is remembered, and no other one. Such as lead into their own region are not.
func TestEachReferenceIsRemembered(t *testing.T) {
	for size := 2; size <= 32; size += 5 {
		for k := 1; k < size; k++ {
			m := blank(small(5))
			m.be(0, api.Old, api.Eden, api.Old)
			m.put(0, 32, 31, lead(0))
			m.put(32, 32, 31, lead(0), lead(32))
			m.put(96-size, size, size-1)
			m.words[96-size+k] = lead(32)
			if size < 32 {
				m.put(64, 32-size, 0)
				m.handle(64)
			}
			m.put(96, 32, 31)
			m.words[97+k%31] = lead(32)
			m.put(128, 32, 31)
			m.words[129+k%31] = lead(96)
			m.words[1+(k*7)%31] = lead(128)
			m.handle(0, 32, 96-size, 96, 128)
			x := compact(t, m.noteAll().lay(t))
			if !slices.Equal(x.h.Sets.Cards(0), slices.Compact([]int{(96 - size + k) / 8, (97 + k%31) / 8})) {
				t.Fatalf("size %d, word %d: %v", size, k, x.h.Sets.Cards(0))
			}
			if !slices.Equal(x.h.Sets.Cards(1), []int{(129 + k%31) / 8}) || !slices.Equal(x.h.Sets.Cards(2), []int{(1 + (k*7)%31) / 8}) {
				t.Fatalf("size %d, word %d: %v, %v", size, k, x.h.Sets.Cards(1), x.h.Sets.Cards(2))
			}
		}
	}
}

// P20.1: a big object's references: its region is that in which it begins, so that what leads there from its other regions is remembered, too.
func TestReferencesOfBigObjects(t *testing.T) {
	m := blank(small(8))
	m.be(1, api.HumStart, api.HumCont, api.HumCont, api.Old)
	m.put(64, 192, 191, lead(64))
	m.words[127], m.words[128], m.words[200], m.words[255] = lead(256), lead(64), lead(256), lead(64)
	m.put(256, 10, 9, lead(64), lead(256))
	x := compact(t, m.handle(64).noteAll().lay(t))
	if l := x.h.Sets.Cards(0); !slices.Equal(l, []int{8, 23, 24}) {
		t.Errorf("region 0 remembers %v", l)
	}
	if l := x.h.Sets.Cards(3); !slices.Equal(l, []int{7, 17}) {
		t.Errorf("region 3 remembers %v", l)
	}
	if len(x.h.Sets.Cards(1))+len(x.h.Sets.Cards(2)) > 0 {
		t.Error("what is behind a big object's first region remembers something")
	}
}

// P20.1: references from many regions into one, from so many cards of each: as soon as more than four sources are fine, the set tells some coarsely.
func TestManySources(t *testing.T) {
	for cards := 1; cards <= 4; cards++ {
		for sources := 1; sources < 9; sources++ {
			c := small(11)
			c.CardShift = 3
			m := blank(c)
			m.be(0, api.Old)
			m.put(0, 32, 31)
			m.put(32, 32, 31)
			m.handle(0)
			for r := 1; r <= sources; r++ {
				m.be(r, api.Old)
				for half := range 2 {
					at := 64*r + 32*half
					m.put(at, 32, 31)
					for k := range cards {
						m.words[at+7+8*k-6*(k/3)] = lead(32 * (k % 2))
					}
					m.handle(at)
				}
			}
			x := compact(t, m.noteAll().lay(t))
			coarse := 0
			for r := range 11 {
				if x.h.Sets.Way(0, r) == remset.InCoarse {
					coarse++
				}
			}
			want := 0
			if cards > 2 {
				want = max(sources-4, 0)
			}
			if coarse != want {
				t.Errorf("%d cards each of %d sources: %d are coarse, not %d", 2*cards, sources, coarse, want)
			}
		}
	}
}

// P20.3: as few regions as can be, each one full, and as many, each but the last with a word or two more than half of it, since the next object lacks a word of room; with big objects ahead and without.
func TestBound(t *testing.T) {
	for n := 1; n < 17; n++ {
		for _, big := range []int{0, 2} {
			for _, pair := range [][]int{{32, 32}, {32, 1}, {1, 32}} {
				m := blank(small(n + 6))
				if big > 0 {
					m.handle(m.big(2, 65))
				}
				for r := 4; r < 4+n; r++ {
					m.sizes(r, api.Eden, pair...)
				}
				x := compact(t, m.noteAll().lay(t))
				if x.words != 65*big/2+n*(pair[0]+pair[1]) || x.regions != big+n {
					t.Errorf("%d times %v: %d words in %d regions", n, pair, x.words, x.regions)
				}
			}
		}
	}
	// Of one object, up to half a region.
	for size := 1; size <= 32; size++ {
		m := blank(small(3))
		m.sizes(1, api.Eden, size)
		if x := compact(t, m.lay(t)); x.words != size || x.regions != 1 {
			t.Errorf("%d words in %d regions", x.words, x.regions)
		}
	}
}
