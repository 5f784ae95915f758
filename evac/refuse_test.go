package evac_test

import (
	"slices"
	"testing"

	"gleaner/api"
	"gleaner/evac"
	"gleaner/heap"
)

// stage is a heap with each kind of region, objects that are reached in each way and such as aren't, cards that wait, and a buffer with words left.
func stage() *model {
	c := small(12)
	c.Tenure = 2
	m := blank(c)
	m.be(0, api.Old, api.Eden, api.Survivor, api.Old, api.HumStart, api.HumCont, api.HumStart, api.Free, api.Eden, api.Old, api.Free, api.Free)
	m.put(0, 6, 4, lead(64), lead(128), lead(192), lead(384))
	m.put(6, 3, 1, lead(70), 5)
	m.fill(9, 5)
	m.put(14, 2, 0, lead(75))
	m.put(64, 4, 2, lead(68), lead(14), lead(128))
	m.put(68, 2, 1, lead(512))
	m.put(70, 3, 1, lead(64))
	m.fill(73, 2)
	m.put(75, 5, 3, lead(128), lead(75))
	m.put(128, 3, 1, lead(192))
	m.put(131, 4, 2, lead(131), lead(384))
	m.age(128, 1)
	m.age(131, 7)
	m.put(192, 3, 1, lead(516))
	m.put(195, 2, 1, lead(64))
	m.put(256, 70, 0, 9)
	m.put(384, 40, 2, lead(64), lead(576))
	m.put(512, 4, 1, lead(0))
	m.put(516, 2, 1)
	m.put(518, 3, 2, lead(256), lead(516))
	m.tops[8] = 576
	m.buffers[1] = piece{512, 9, 576}
	m.put(576, 4, 2, lead(512), lead(384))
	m.handles = [][]uint64{{0, lead(75), lead(0)}, {lead(131), lead(75)}}
	// The card of 195's reference is the one that waits.
	m.remember(1, 1, 385).remember(2, 2).remember(3, 3).remember(6, 4, 578).remember(8, 193, 577).remember(9, 386)
	m.dirty = []int{24, 1, 70}
	m.pushed = [][2]int{{0, 24}, {1, 1}, {1, 30}, {1, 8}, {1, 99}}
	for at := range m.words {
		if at%3 > 0 {
			m.marks = append(m.marks, at)
		}
	}
	return m.noteAll()
}

// wantRefused asks for a pause that is refused: nothing else is answered, and nothing has changed.
func wantRefused(t *testing.T, h *heap.Heap, homes []int, marking bool, want api.Errno) {
	t.Helper()
	twin := twinOf(h)
	in := append(slices.Clone(homes), -7, -7)
	r, e := evac.Pause(h, in[:len(homes)], marking)
	if e != want {
		t.Fatalf("Pause of %v, marking %v: %v, not %v", homes, marking, e, want)
	}
	if !slices.Equal(in, append(slices.Clone(homes), -7, -7)) {
		t.Fatalf("Pause changed %v to %v", homes, in)
	}
	wantNothing(t, r, h, twin)
}

// P19.1

func TestNilHeap(t *testing.T) {
	for _, homes := range [][]int{nil, {}, {0}, {0, 0}, {-1, 5}, far} {
		for _, marking := range []bool{false, true} {
			r, e := evac.Pause(nil, homes, marking)
			if e != api.ErrNil || r.Moved != 0 || r.Failed != 0 || len(r.Freed)+len(r.Kept)+len(r.Big) > 0 {
				t.Errorf("Pause of no heap: %v, %v", r, e)
			}
		}
	}
}

// The chapter's example, with both values of Fail.
func TestExample(t *testing.T) {
	for fail := range 2 {
		for _, marking := range []bool{false, true} {
			m := blank(api.Config{Shift: 6, Regions: 4, CardShift: 3, Threads: 1, Roots: 4, Young: 1, Tenure: 1, Fail: fail})
			m.be(0, api.Old, api.Eden)
			m.put(0, 3, 1, lead(64))
			m.put(64, 2, 0, 7)
			h := m.remember(1, 1).handle(0).lay(t)
			x := pause(t, h, []int{1}, marking)
			w, _ := h.Arena.Load(1)
			row, _ := h.Row(fail)
			if fail == 0 && (x.report.Moved != 1 || !slices.Equal(x.report.Freed, []int{1}) || w != 4 || !slices.Equal(row, []int{0, 3}) || h.Regions.State(1) != api.Free) {
				t.Errorf("Moved %d, Freed %v, the reference is %d, the row %v", x.report.Moved, x.report.Freed, w, row)
			}
			if fail == 1 && (x.report.Failed != 1 || !slices.Equal(x.report.Kept, []int{1}) || w != 65 || !slices.Equal(row, []int{64}) || h.Regions.State(1) != api.Old) {
				t.Errorf("Failed %d, Kept %v, the reference is %d, the row %v", x.report.Failed, x.report.Kept, w, row)
			}
		}
	}
}

// Each set of the stage's regions as homes: those may be that have all young ones and nothing that is big or free, and no old one while a marking goes on.
func TestEachSetOfHomes(t *testing.T) {
	m := stage()
	h := m.lay(t)
	d := dice(1)
	may := 0
	for bits := range 1 << 12 {
		var homes []int
		for r := range 12 {
			if bits>>r&1 == 1 {
				homes = append(homes, r)
			}
		}
		homes = shuffled(&d, homes)
		for _, marking := range []bool{false, true} {
			has := func(all ...int) bool {
				return slices.ContainsFunc(all, func(r int) bool { return slices.Contains(homes, r) })
			}
			if has(1) && has(2) && has(8) && !has(4, 5, 6, 7, 10, 11) && !(marking && has(0, 3, 9)) {
				may++
				pause(t, twinOf(h), homes, marking)
			} else {
				wantRefused(t, h, homes, marking, api.ErrShape)
			}
		}
	}
	if may != 9 {
		t.Errorf("%d sets may be", may)
	}
}

// What is no region, beside right homes and alone, in each place; and each home told twice.
func TestHomesThatMayNotBe(t *testing.T) {
	h := stage().lay(t)
	for _, n := range append(none(12), 4, 5, 6, 7, 10, 11, 1, 2, 8, 3) {
		for k := range 5 {
			wantRefused(t, h, slices.Insert([]int{2, 8, 3, 1}, k, n), false, api.ErrShape)
		}
		wantRefused(t, h, []int{n}, false, api.ErrShape)
		wantRefused(t, h, []int{n, n}, true, api.ErrShape)
	}
	wantRefused(t, h, nil, false, api.ErrShape)
	wantRefused(t, h, []int{}, true, api.ErrShape)
	wantRefused(t, h, none(12), false, api.ErrShape)
	wantRefused(t, h, append(none(12), 1, 2, 8), true, api.ErrShape)
	wantRefused(t, h, slices.Repeat([]int{1, 2, 8}, 30000), false, api.ErrShape)
}

// Where nothing is young no home is one of them that may be: nil and empty, with something to be done, and nothing.
func TestNoHomes(t *testing.T) {
	for _, homes := range [][]int{nil, {}} {
		for _, marking := range []bool{false, true} {
			m := stage()
			for _, r := range m.young() {
				m.states[r] = api.Old
			}
			x := pause(t, m.noteAll().lay(t), homes, marking)
			if x.report.Moved+x.report.Failed+len(x.report.Freed)+len(x.report.Kept) > 0 || x.h.Queue.Waiting() > 0 || x.h.Buffers[1].Left() > 0 {
				t.Errorf("%+v", x.report)
			}
			x = pause(t, blank(small(3)).lay(t), homes, marking)
			if len(x.report.Big) > 0 {
				t.Errorf("%+v", x.report)
			}
			m = blank(small(3))
			m.be(0, api.Free, api.HumStart, api.HumCont)
			m.put(64, 65, 0)
			x = pause(t, m.lay(t), homes, marking)
			if slices.Equal(x.report.Big, []int{1}) == marking {
				t.Errorf("marking %v: %+v", marking, x.report)
			}
		}
	}
}

// A heap that isn't sound, wherever: nothing has changed. That the homes may not be is told ahead of it.
func TestHeapsThatAreNotSound(t *testing.T) {
	for k, breach := range []func(m *model){
		func(m *model) { m.words[65] = lead(65) },
		func(m *model) { m.words[77] = lead(73) },
		func(m *model) { m.words[69] = lead(700) },
		func(m *model) { m.words[1] = lead(66) },
		func(m *model) { m.words[385] = lead(520) },
		func(m *model) { m.words[577] = 3000 },
		func(m *model) { m.words[14] = 0 },
		func(m *model) { m.words[75] = forward(5, 0) },
		func(m *model) { m.words[384] = filler(40) },
		func(m *model) { m.words[256] = object(130, 0) },
		func(m *model) { m.handles[0][1] = lead(76) },
		func(m *model) { m.handles[1] = []uint64{lead(521)} },
		func(m *model) { m.tops[2]++ },
		func(m *model) { m.tops[9]-- },
		func(m *model) { m.buffers[1].taken-- },
	} {
		m := stage()
		breach(m)
		h := m.lay(t)
		if h.Check() != api.ErrBroken {
			t.Fatalf("breach %d: it is sound", k)
		}
		for _, marking := range []bool{false, true} {
			wantRefused(t, h, []int{8, 1, 2}, marking, api.ErrBroken)
			wantRefused(t, h, []int{8, 1}, marking, api.ErrShape)
			wantRefused(t, h, []int{8, 1, 2, 4}, marking, api.ErrShape)
			wantRefused(t, h, []int{8, 1, 2, 1}, marking, api.ErrShape)
			wantRefused(t, h, []int{8, 1, 2, 12}, marking, api.ErrShape)
		}
		wantRefused(t, h, []int{8, 1, 2, 0, 9}, false, api.ErrBroken)
		wantRefused(t, h, []int{8, 1, 2, 0, 9}, true, api.ErrShape)
	}
}

// cracked is a heap in whose region 0, which is old, Offs leads to no header at the cards 2 and 3, whatever they need of them; the regions 1 and 2 are young, 3 is old, and 4 big.
func cracked(threads, bound int) *model {
	c := small(6)
	c.Threads, c.Queue = threads, bound
	m := blank(c)
	m.be(0, api.Old, api.Eden, api.Survivor, api.Old, api.HumStart)
	m.put(0, 30, 29, lead(64))
	m.words[18], m.words[25] = lead(64), lead(128)
	m.put(64, 4, 2, lead(128))
	m.put(128, 3, 1)
	m.put(192, 3, 1, lead(64))
	m.put(256, 40, 30, lead(64))
	m.words[280] = lead(128)
	m.noteAll()
	m.known[2], m.known[3] = 5, 6
	return m.handle(0, 192, 256)
}

// A header is needed of each card that waits, in whatever list, of each bound of the common one and behind some pops: each card waits still behind the refusal, where it did.
func TestHeadersOfCardsThatWait(t *testing.T) {
	for bound := range 11 {
		for count := range 15 {
			for at := range count + 1 {
				for popped := range 6 {
					m := cracked(1+(count+at)%3, bound)
					for k := range count {
						card := k%2 + 24
						if k == at {
							card = 2 + at%2
						}
						m.pushed = append(m.pushed, [2]int{k % m.c.Threads, card})
					}
					h := m.lay(t)
					for range popped {
						h.Queue.Pop()
					}
					if slices.ContainsFunc(slices.Concat(lists(h)...), func(card int) bool { return card < 4 }) {
						wantRefused(t, h, []int{2, 1}, at%2 > 0, api.ErrBroken)
						wantRefused(t, h, []int{2, 1, 0}, false, api.ErrBroken)
					} else if at%4 == 0 {
						pause(t, h, []int{2, 1}, at%8 > 0)
					}
				}
			}
		}
	}
}

// A header is needed of a card that is remembered for a home, if it is of the outside, and of no other one.
func TestHeadersOfRememberedCards(t *testing.T) {
	for home := range 6 {
		for card := range 48 {
			m := cracked(2, 9)
			if card/8 == home {
				continue
			}
			m.sets = append(m.sets, [2]int{home, card})
			h := m.lay(t)
			for _, homes := range [][]int{{1, 2}, {2, 1, 0}, {1, 3, 2}, {3, 2, 1, 0}} {
				if (card == 2 || card == 3) && slices.Contains(homes, home) && !slices.Contains(homes, 0) {
					wantRefused(t, h, homes, false, api.ErrBroken)
				} else {
					pause(t, twinOf(h), homes, false)
				}
			}
		}
	}
}

// Each header that Offs may lead to, and that may stand behind it: an object's or a filler's, or one that is none.
func TestEachHeaderOfACard(t *testing.T) {
	for _, c := range []struct {
		word uint64
		e    api.Errno
	}{
		{0, api.ErrBroken}, {4, api.ErrBroken}, {1 << 63, api.ErrBroken}, {forward(3, 64), api.ErrBroken}, {forward(30, 0), api.ErrBroken}, {object(0, 0), api.ErrBroken},
		{filler(30), api.OK}, {filler(3), api.OK}, {object(9, 0), api.OK}, {object(3, 2), api.OK}, {aged(5, 0, 7), api.OK}, {object(1048576, 0), api.OK}, {filler(11), api.OK}, {filler(12), api.ErrBroken},
	} {
		for k := range 2 {
			m := cracked(1, 9)
			m.put(0, 30, 0, 0, 0, 0, 0, 0, 0, 0)
			// What is at 5 is data: behind its words there are fillers up to the end, but at 17 none.
			m.words[5] = c.word
			for at := 6; at < 30; at++ {
				m.words[at] = filler(1)
			}
			m.words[17] = 0
			m.words[16] = filler(2)
			m.known[2], m.known[3] = 5, -1
			if k == 0 {
				m.pushed = [][2]int{{0, 2}}
			} else {
				m.remember(1, 16)
			}
			h := m.lay(t)
			if c.e == api.OK {
				pause(t, h, []int{1, 2}, false)
			} else {
				wantRefused(t, h, []int{1, 2}, false, c.e)
			}
		}
	}
}

// The headers that a card needs end ahead of the next card, and ahead of the row's end, which is at 30: the card 2 begins at 16, the card 3 at 24.
func TestLastHeaderOfACard(t *testing.T) {
	for _, c := range []struct {
		card, at int // where the header is none, to which Offs leads by a filler
		e        api.Errno
	}{
		{2, 16, api.ErrBroken}, {2, 17, api.ErrBroken}, {2, 22, api.ErrBroken}, {2, 23, api.ErrBroken}, {2, 24, api.OK}, {2, 25, api.OK}, {2, 30, api.OK},
		{3, 24, api.ErrBroken}, {3, 28, api.ErrBroken}, {3, 29, api.ErrBroken}, {3, 30, api.OK}, {3, 31, api.OK}, {3, 32, api.OK},
	} {
		m := cracked(1, 9)
		m.put(0, 30, 0)
		m.known[2], m.known[3] = -1, -1
		m.known[c.card] = 5
		m.words[5] = filler(c.at - 5)
		m.words[c.at] = junk
		m.pushed = [][2]int{{0, c.card}}
		h := m.lay(t)
		if c.e == api.OK {
			pause(t, h, []int{1, 2}, false)
		} else {
			wantRefused(t, h, []int{1, 2}, false, c.e)
		}
	}
}

// What no card needs: behind a row's end, of a region that is young, free or big, where Offs knows of nothing, or of something in another region.
func TestHeadersThatAreNotNeeded(t *testing.T) {
	for card := range 48 {
		m := cracked(2, 9)
		for k := range m.known {
			m.known[k] = -1
		}
		m.known[card] = 5
		m.pushed = append(m.pushed, [2]int{0, card})
		m.remember((card/8+1)%6, card*8)
		h := m.lay(t)
		if card > 0 && card < 4 {
			wantRefused(t, h, []int{1, 2}, false, api.ErrBroken)
			wantRefused(t, h, []int{1, 0, 3, 2}, false, api.ErrBroken)
		} else if card > 0 {
			pause(t, twinOf(h), []int{1, 2}, false)
			pause(t, h, []int{1, 0, 3, 2}, false)
		}
	}
}
