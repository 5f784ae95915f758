package refine_test

import (
	"math"
	"slices"
	"testing"

	"gleaner/api"
	"gleaner/heap"
	"gleaner/refine"
)

// small is a configuration of regions of 64 words, in cards of 8, and two threads.
func small(regions int) api.Config {
	return api.Config{Shift: 6, Regions: regions, CardShift: 3, Threads: 2, Roots: 4, Young: 1, Queue: 64}
}

// junk is no header's word, and leads to no word.
const junk = math.MaxUint64 - 3

// stage is a heap of each kind of region. Offs knows of nothing; behind rows, in free regions and in data words stands what would be a header, or lead out.
func stage() *model {
	m := blank(small(10))
	m.be(0, api.Old, api.Eden, api.Survivor, api.HumStart, api.HumCont, api.HumCont, api.Free, api.Old, api.HumStart, api.Old)
	m.put(0, 3, 1, lead(64), lead(128))
	m.fill(3, 7)
	m.words[4], m.words[5] = object(2, 1), lead(64)
	m.put(10, 20, 15, lead(64), 0, lead(10), lead(576), lead(192), lead(64), lead(512), 0, lead(0), lead(64), 0, 0, 0, lead(128), lead(192), lead(64), lead(64))
	m.put(30, 1, 0)
	m.put(31, 2, 1, lead(128))
	m.put(33, 7, 6, lead(64), lead(33), 0, lead(512), 0, lead(64))
	m.put(40, 4, 3, lead(192), 0, lead(512))
	m.words[44], m.words[45] = object(4, 3), lead(64)
	m.put(64, 4, 3, lead(0), lead(128), lead(192))
	m.put(68, 20, 19, lead(0), lead(10), lead(192))
	m.put(128, 10, 9, lead(0), lead(64), lead(512), 0, 0, 0, 0, lead(64))
	m.put(192, 150, 140, lead(64), lead(192), lead(576))
	// The last of its first region, the first and last of its second, the first and last of its third; behind these are data words.
	m.words[255], m.words[256], m.words[319], m.words[320], m.words[332], m.words[333], m.words[341] = lead(64), lead(0), lead(192), lead(64), lead(512), lead(64), lead(64)
	m.words[384], m.words[385] = object(3, 2), lead(64)
	m.put(512, 40, 39, lead(64), lead(512), lead(192))
	for at := 576; at < 640; at += 2 {
		m.put(at, 2, 1, lead(64))
	}
	m.buffers[1] = piece{600, 10, 640}
	return m
}

// marked is a heap of which the even cards are dirty.
func (m *model) marked() *model {
	n := m.clone()
	for card := range n.dirty {
		n.dirty[card] = card%2 == 0
	}
	return n
}

// P16.1

func TestCardOfANilHeap(t *testing.T) {
	refused, _ := heap.New(api.Config{})
	for _, h := range []*heap.Heap{nil, refused} {
		for _, card := range append([]int{0, 1, 7, 8, 79, 80}, far...) {
			if e := refine.Card(h, card); e != api.ErrNil {
				t.Errorf("Card(%d): %v", card, e)
			}
		}
	}
}

// A card that isn't there, of a sound heap and of one in which each header is none; and the first and the last one, which are.
func TestCardThatIsNotThere(t *testing.T) {
	broken := stage()
	for _, at := range []int{0, 64, 128, 192, 512, 576} {
		broken.words[at] = junk
	}
	for _, m := range []*model{stage().marked(), broken.marked()} {
		h, twin := m.lay(t), m.lay(t)
		for _, card := range none(m.cards()) {
			if e := refine.Card(h, card); e != api.ErrRange {
				t.Errorf("Card(%d): %v", card, e)
			}
		}
		wantTwin(t, h, twin, "cards that aren't there")
	}
	m := stage()
	h := m.lay(t)
	for _, card := range []int{0, m.cards() - 1} {
		if e := refine.Card(h, card); e != api.OK {
			t.Errorf("Card(%d): %v", card, e)
		}
	}
}

// wantCard looks at a card, and asks that the heap is what its twin becomes by the chapter.
func (m *model) wantCard(t *testing.T, h, twin *heap.Heap, card int) {
	t.Helper()
	want := m.look(twin, card)
	if e := refine.Card(h, card); e != want {
		t.Fatalf("Card(%d): %v, not %v", card, e, want)
	}
	wantTwin(t, h, twin, "Card")
}

// ways are a model of which Offs knows nothing, all, and of each card something else.
func (m *model) ways() []*model {
	none, all, some := m.clone(), m.clone(), m.clone()
	for card := range none.known {
		none.known[card] = -1
	}
	all.noteAll()
	some.noteAll()
	for card := range some.known {
		if card%3 != 0 {
			some.known[card] = -1
		}
	}
	return []*model{none, all, some}
}

func TestEachCardOfTheStage(t *testing.T) {
	for _, m := range append(stage().ways(), stage().marked().ways()...) {
		if e := m.lay(t).Check(); e != api.OK {
			t.Fatalf("the stage: %v", e)
		}
		all, allTwin := m.lay(t), m.lay(t)
		for card := range m.cards() {
			h, twin := m.lay(t), m.lay(t)
			m.wantCard(t, h, twin, card)
			if h.Cards.Is(card) {
				t.Fatalf("the card %d is dirty", card)
			}
			m.wantCard(t, h, twin, card)
			m.wantCard(t, all, allTwin, card)
		}
		for card := m.cards() - 1; card >= 0; card-- {
			m.wantCard(t, all, allTwin, card)
		}
	}
}

// What the stage's regions remember, written out: of the cards of the region 0 one by one, and of all.
func TestStageWrittenOut(t *testing.T) {
	for _, m := range stage().ways() {
		h := m.lay(t)
		want := func(home int, cards ...int) {
			t.Helper()
			if l := h.Sets.Cards(home); !slices.Equal(l, cards) {
				t.Errorf("region %d remembers %v, not %v", home, l, cards)
			}
		}
		for card := range 8 {
			if e := refine.Card(h, card); e != api.OK {
				t.Fatalf("Card(%d): %v", card, e)
			}
		}
		want(0)
		want(1, 0, 1, 2, 4) // 1, 11, 16, 20, 34, 39
		want(2, 3, 4)       // 24, 32
		want(3, 1, 3, 5)    // 15, 25, 41
		want(8, 2, 4, 5)    // 17, 37, 43
		want(9, 1)          // 14
		for card := range m.cards() {
			refine.Card(h, card)
		}
		want(0, 32)                                             // 256
		want(1, 0, 1, 2, 4, 24, 31, 40, 64, 72, 73, 74, 75, 76) // 193, 255, 320, 513, 577 to 609
		want(2, 3, 4)                                           // the big one's data words lead nowhere
		want(3, 1, 3, 5, 39, 64)                                // 319 leads from the big one's second region into its first
		want(4)                                                 // no object begins there
		want(8, 2, 4, 5, 41)                                    // 332
		want(9, 1, 24)                                          // 195
		for _, homes := range [][]int{{0}, {1}, {2}, {3}, {1, 3, 8}, {9}} {
			if l := h.Lost(homes); len(l) != 0 {
				t.Errorf("Lost(%v): %v", homes, l)
			}
		}
	}
}

// An object from each word of a region on, of each size: each of its references that lies in a card, and no other word of it.
func TestReferencesAboutACard(t *testing.T) {
	for at := range 64 {
		for size := 1; size <= 64-at; size++ {
			m := blank(small(4))
			m.be(0, api.Old)
			if at > 0 {
				m.fill(0, at)
			}
			ptrs := (at*7 + size*3) % size
			m.put(at, size, ptrs)
			for k := 1; k < size; k++ {
				m.words[at+k] = lead(64)
				if k > ptrs {
					m.words[at+k] = lead(128)
				}
			}
			m.wantEachCard(t, at+1, at+1+ptrs)
		}
	}
}

// wantEachCard asks, Offs knowing and not, that the region 1 remembers just the cards that have words from one address on and ahead of another, each when it was looked at, and the region 2 none.
func (m *model) wantEachCard(t *testing.T, from, to int) {
	t.Helper()
	for _, n := range m.ways()[:2] {
		h := n.lay(t)
		for card := range n.cards() {
			var want []int
			if from < to && from < (card+1)*n.card && to > card*n.card {
				want = []int{card}
			}
			e := refine.Card(h, card)
			if l, other := h.Sets.Cards(1), h.Sets.Cards(2); e != api.OK || !slices.Equal(l, want) || len(other) != 0 {
				t.Fatalf("references from %d to %d: Card(%d): %v, %v, %v", from, to, card, e, l, other)
			}
			h.Sets.Clear(1)
		}
	}
}

// One reference alone, of each number of an object that reaches over three cards, leads out: its card tells, the other ones don't.
func TestOneReferenceAlone(t *testing.T) {
	for field := 4; field <= 29; field++ {
		m := blank(small(4))
		m.be(0, api.Old)
		m.put(0, 3, 2)
		m.put(3, 30, 26)
		m.put(33, 2, 1)
		m.words[field] = lead(64)
		m.wantEachCard(t, field, field+1)
	}
}

// A big object of each number of regions, each of its references alone, and the words behind them.
func TestEachWordOfABigObject(t *testing.T) {
	for _, size := range []int{33, 64, 65, 127, 128, 129, 150, 192} {
		for word := 1; word < size; word++ {
			ptrs := size - 1 - (size+word)%4
			m := blank(small(6))
			m.be(2, api.HumStart, api.HumCont, api.HumCont)
			if size <= 128 {
				m.be(4, api.Free)
			}
			if size <= 64 {
				m.be(3, api.Free)
			}
			m.put(128, size, ptrs)
			m.words[128+word] = lead(64)
			if word <= ptrs {
				m.wantEachCard(t, 128+word, 128+word+1)
			} else {
				m.wantEachCard(t, 0, 0)
			}
		}
	}
}

// leads are words that lead to each kind of place, and to none.
func leads(m *model) []uint64 {
	all := []uint64{0, junk, math.MaxUint64, 1 << 63, 1<<63 + 1, 1<<63 + 65, math.MaxInt64, math.MaxInt64 + 2}
	for r := range m.states {
		for _, at := range []int{m.base(r), m.base(r) + 1, m.base(r) + m.card, m.base(r+1) - 2, m.base(r+1) - 1} {
			all = append(all, lead(at))
		}
	}
	n := len(m.words)
	all = append(all, lead(n), lead(n+1), lead(2*n), lead(n*n))
	for shift := 12; shift < 64; shift++ {
		all = append(all, 1<<shift, 1<<shift+65)
	}
	return all
}

// Where a reference leads: into its own region, its own big object's, each other one's, a free one's, to no word at all.
func TestWhereAReferenceLeads(t *testing.T) {
	for _, field := range []int{1, 20, 43, 193, 255, 256, 319, 320, 332, 513, 577} {
		m := stage()
		for _, w := range leads(m) {
			m.words[field] = w
			for at := field - field%m.card; at < field-field%m.card+m.card; at++ {
				if at != field && slices.Contains(m.fields(field/m.card), at) {
					m.words[at] = 0
				}
			}
			h := m.lay(t)
			home := m.target(w)
			if e := refine.Card(h, field/m.card); e != api.OK {
				t.Fatalf("Card(%d): %v", field/m.card, e)
			}
			for r := range m.states {
				var want []int
				if r == home && r != field/m.region {
					want = []int{field / m.card}
				}
				if l := h.Sets.Cards(r); !slices.Equal(l, want) {
					t.Fatalf("%d at %d: region %d remembers %v, not %v", w, field, r, l, want)
				}
			}
		}
	}
}

// Regions of each state with the same row: of those that are free or young, no card is looked at, whatever headers are there.
func TestStates(t *testing.T) {
	for s := api.Free; s <= api.HumCont; s++ {
		for _, broken := range []bool{false, true} {
			m := blank(small(4))
			m.be(1, api.Old, s)
			if s == api.HumCont {
				m.be(1, api.HumStart)
				m.put(64, 128, 127)
			}
			m.put(128, 64, 63)
			for at := 129; at < 192; at++ {
				m.words[at] = lead(0)
			}
			if broken {
				m.words[64], m.words[128] = junk, junk
			}
			for card := 16; card < 24; card++ {
				m.dirty[card] = true
				h, twin := m.lay(t), m.lay(t)
				m.wantCard(t, h, twin, card)
				looked := s == api.Old || s == api.HumStart || s == api.HumCont
				if h.Sets.Has(0, card) != (looked && !broken) || h.Cards.Is(card) != (looked && broken) {
					t.Errorf("state %d, broken %v: Card(%d): %v, dirty %v", s, broken, card, h.Sets.Cards(0), h.Cards.Is(card))
				}
			}
		}
	}
}

// A region that ends a run which no HumStart begins: there is no object.
func TestContWithoutStart(t *testing.T) {
	m := blank(small(4))
	for _, ahead := range []api.RegionState{api.Free, api.Old, api.Eden} {
		h, _ := heap.New(m.c)
		for range 2 {
			h.Regions.Run(2, 128)
		}
		h.Regions.Release(0)
		if ahead != api.Free {
			h.Regions.Claim(ahead)
		}
		h.Regions.Release(2)
		h.Cards.Dirty(8)
		h.Arena.Store(0, object(128, 127))
		h.Arena.Store(128, object(128, 127))
		for at := 64; at < 128; at++ {
			h.Arena.Store(at, lead(200))
		}
		for _, card := range []int{8, 15, 24, 31} {
			if e := refine.Card(h, card); e != api.OK || len(h.Sets.Cards(3)) != 0 || h.Cards.Is(8) {
				t.Errorf("Card(%d): %v, %v", card, e, h.Sets.Cards(3))
			}
		}
	}
}

// Where the row ends, by its Top or by what a buffer has left: no header at or behind the end is looked at, nor a reference of one.
func TestWhereTheRowEnds(t *testing.T) {
	for end := 64; end <= 128; end++ {
		for how := range 4 {
			m := blank(small(4))
			m.be(1, api.Old)
			for at := 64; at < 128; at += 2 {
				m.words[at], m.words[at+1] = object(2, 1), lead(0)
			}
			if end%2 == 1 {
				m.words[end-1] = object(1, 0)
			}
			m.tops[1] = end
			switch {
			case how == 1:
				m.tops[1], m.buffers[1] = 128, piece{64, end - 64, 128}
			case how == 2 && end < 128:
				m.tops[1], m.buffers[0], m.buffers[1] = 64, piece{end - 1, 1, 128}, piece{0, 1, 64}
			case how == 3:
				// Nothing is left of these, and what is left begins in another region.
				m.buffers[0], m.buffers[1] = piece{64, end - 64, end}, piece{0, 3, 64}
			}
			for at := end; at < 128; at++ {
				m.words[at] = junk
			}
			for _, n := range m.ways() {
				h, twin := n.lay(t), n.lay(t)
				for card := range n.cards() {
					n.wantCard(t, h, twin, card)
				}
				var want []int
				for card := 8; card*8 < end-1; card++ {
					want = append(want, card)
				}
				if l := h.Sets.Cards(0); !slices.Equal(l, want) {
					t.Fatalf("a row to %d: %v, not %v", end, l, want)
				}
			}
		}
	}
}

// Of two buffers with words left in a region the lower one ends its row, whichever thread has it.
func TestTwoBuffersInARegion(t *testing.T) {
	for _, p := range [][]piece{{{64, 10, 80}, {90, 10, 128}}, {{90, 10, 128}, {64, 10, 80}}} {
		m := blank(small(4))
		m.be(1, api.Old)
		m.put(64, 10, 9, 0, 0, 0, 0, 0, 0, 0, 0, lead(0))
		m.tops[1] = 128
		m.buffers = p
		for _, n := range m.ways() {
			h, twin := n.lay(t), n.lay(t)
			for card := range n.cards() {
				n.wantCard(t, h, twin, card)
			}
			if l := h.Sets.Cards(0); !slices.Equal(l, []int{9}) {
				t.Errorf("%v: %v", p, l)
			}
		}
	}
}

// letters are words such as a row may have, and such as it may not.
var letters = []uint64{
	0, object(1, 0), object(2, 1), aged(3, 0, 7), object(4, 3), object(9, 8), object(1048576, 0), object(1048576, 1048575),
	filler(1), filler(2), filler(9), filler(1048576),
	forward(1, 0), forward(2, 64), forward(1048576, 4194303), 1, 2, 3, 4, object(2, 2), object(1048577, 0), 1<<60 + filler(1), 1<<47 + object(1, 0), junk, math.MaxUint64, 1 << 63,
}

// Each header of the stage is each of these words: a card is looked at, unless one that is needed is none; then nothing is done.
func TestEachHeaderIsEachWord(t *testing.T) {
	for _, at := range []int{0, 3, 10, 30, 31, 33, 40, 44, 64, 68, 128, 192, 256, 320, 384, 448, 512, 576, 578, 608, 610} {
		for _, w := range letters {
			for _, m := range stage().marked().ways() {
				m.words[at] = w
				h, twin := m.lay(t), m.lay(t)
				for card := range m.cards() {
					want := m.look(twin, card)
					if e := refine.Card(h, card); e != want {
						t.Fatalf("%d at %d: Card(%d): %v, not %v", w, at, card, e, want)
					}
				}
				wantTwin(t, h, twin, "each card")
			}
		}
	}
}

// Which headers are needed, written out: a row of four objects, one of which has no header.
func TestWhichHeadersAreNeeded(t *testing.T) {
	lay := func() *model {
		m := blank(small(4))
		m.be(1, api.Old)
		m.put(64, 6, 5)
		m.put(70, 20, 19)
		m.put(90, 6, 5)
		m.put(96, 4, 3)
		for _, at := range []int{69, 71, 88, 89, 91, 95, 97} {
			m.words[at] = lead(0)
		}
		return m
	}
	// For each header that is none the cards, from 8 on, that need it: where Offs knows of nothing, and where it knows of all.
	for at, want := range map[int][2]string{
		64:  {"bbbbb...", "b......."},
		70:  {"bbbbb...", "bbbb...."},
		90:  {"...bb...", "...b...."},
		96:  {"....b...", "....b..."},
		100: {"........", "........"},
		71:  {"........", "........"},
	} {
		for k, m := range lay().ways()[:2] {
			for _, none := range []uint64{0, junk, forward(3, 0), object(3, 3)} {
				m.words[at] = none
				h := m.lay(t)
				told := ""
				for card := 8; card < 16; card++ {
					h.Cards.Dirty(card)
					letter := "."
					if e := refine.Card(h, card); e == api.ErrBroken && h.Cards.Is(card) && len(h.Sets.Cards(0)) == 0 {
						letter = "b"
					} else if e != api.OK || h.Cards.Is(card) {
						letter = "?"
					}
					h.Sets.Clear(0)
					told += letter
				}
				if told != want[k] {
					t.Errorf("no header at %d, Offs %d: %s, not %s", at, k, told, want[k])
				}
			}
		}
	}
}

// Of a big object the one header is needed by each card of its regions, and a filler isn't it; those of other regions don't need it.
func TestWhichCardsNeedABigHeader(t *testing.T) {
	for _, w := range letters {
		m := blank(small(6))
		m.be(1, api.HumStart, api.HumCont, api.HumCont, api.Old, api.HumStart)
		m.put(64, 150, 149)
		m.put(256, 2, 1, lead(0))
		m.put(320, 40, 39, lead(0))
		m.words[64] = w
		x, is := header(w)
		for _, n := range m.ways() {
			h, twin := n.lay(t), n.lay(t)
			for card := range n.cards() {
				n.wantCard(t, h, twin, card)
				want := api.OK
				if card >= 8 && card < 32 && (!is || x.Kind != api.HeadObject) {
					want = api.ErrBroken
				}
				if e := refine.Card(h, card); e != want {
					t.Errorf("%d at 64: Card(%d): %v, not %v", w, card, e, want)
				}
			}
		}
	}
}

// What Offs knows of an object that begins in another region is of no use for a row.
func TestOffsOfAnotherRegion(t *testing.T) {
	m := blank(small(4))
	m.be(1, api.Old, api.Old)
	m.put(64, 64, 63)
	m.put(128, 3, 1, lead(0))
	m.put(131, 10, 9, 0, 0, 0, 0, lead(64))
	m.note(64, 72)
	h, twin := m.lay(t), m.lay(t)
	for card := range m.cards() {
		m.wantCard(t, h, twin, card)
	}
	if !slices.Equal(h.Sets.Cards(0), []int{16}) || !slices.Equal(h.Sets.Cards(1), []int{17}) {
		t.Error(h.Sets.Cards(0), h.Sets.Cards(1))
	}
}

// soundHeap lays regions of all states with objects and fillers in them that lead to one another, in words that are anything elsewhere.
func (d *dice) soundHeap() *model {
	shift := 6 + d.below(3)
	m := blank(api.Config{Shift: shift, Regions: 2 + d.below(9), CardShift: 3 + d.below(shift-2), Threads: 1 + d.below(4), Roots: 3, Young: 1, Queue: d.below(20)})
	for at := range m.words {
		if d.oneIn(3) {
			m.words[at] = d.anything(m)
		}
	}
	for r := 0; r < len(m.states); r++ {
		switch d.below(10) {
		case 0:
		case 1, 2:
			r += d.layBig(m, r) - 1
		default:
			m.states[r] = pick(d, []api.RegionState{api.Eden, api.Survivor, api.Old, api.Old, api.Old})
			d.layRow(m, r)
		}
	}
	d.connect(m)
	for card := range m.dirty {
		m.dirty[card] = d.oneIn(2)
	}
	for range d.below(20) {
		m.pushed = append(m.pushed, [2]int{d.below(m.c.Threads), d.below(m.cards() + 2)})
	}
	return m
}

// layBig lays a big object from a region on, and tells how many it takes.
func (d *dice) layBig(m *model, r int) int {
	n := 1 + d.below(min(3, len(m.states)-r))
	m.be(r, api.HumStart)
	for i := 1; i < n; i++ {
		m.be(r+i, api.HumCont)
	}
	size := m.base(n-1) + 1 + d.below(m.region)
	m.put(m.base(r), size, d.below(size))
	return n
}

// layRow lays objects and fillers from a region's first word on, up to the end, to a Top, or to what a thread's buffer has left.
func (d *dice) layRow(m *model, r int) {
	at, end := m.base(r), m.base(r+1)
	for at < end && !d.oneIn(15) {
		size := 1 + d.below(min(end-at, 1+d.below(30)))
		if d.oneIn(5) {
			m.fill(at, size)
		} else {
			ptrs := d.below(size)
			m.put(at, size, ptrs)
			m.words[at] = aged(size, ptrs, d.below(8))
		}
		at += size
	}
	m.tops[r] = at
	thread := d.below(len(m.buffers))
	if m.buffers[thread] == (piece{}) && at < end && d.oneIn(2) {
		m.buffers[thread] = piece{m.base(r), at - m.base(r), end}
		m.tops[r] = end
	}
}

// anything is a word of any kind.
func (d *dice) anything(m *model) uint64 {
	switch d.below(6) {
	case 0:
		return pick(d, letters)
	case 1, 2:
		return lead(d.below(len(m.words) + 2))
	case 3:
		size := 1 + d.below(70)
		return object(size, d.below(size))
	case 4:
		return filler(1 + d.below(70))
	}
	return math.MaxUint64 - uint64(d.below(100))
}

// connect makes all references lead to objects or be nil, and the data words be anything.
func (d *dice) connect(m *model) {
	var objects []int
	for r := range m.states {
		for _, at := range m.row(r) {
			if x, _ := header(m.words[at]); x.Kind == api.HeadObject {
				objects = append(objects, at)
			}
		}
	}
	for _, at := range objects {
		x, _ := header(m.words[at])
		for k := 1; k < x.Size; k++ {
			m.words[at+k] = d.anything(m)
			if k <= x.Ptrs {
				m.words[at+k] = lead(pick(d, objects))
				if d.oneIn(3) {
					m.words[at+k] = 0
				}
			}
		}
	}
}

// breach changes something by which a heap may not be sound any more.
func (d *dice) breach(m *model) {
	r := d.below(len(m.states))
	switch d.below(5) {
	case 0, 1:
		m.words[d.below(len(m.words))] = d.anything(m)
	case 2:
		if row := m.row(r); len(row) > 0 {
			m.words[pick(d, row)] = d.anything(m)
		}
	case 3:
		if s := m.states[r]; s == api.Eden || s == api.Survivor || s == api.Old {
			m.tops[r] = m.base(r) + d.below(m.region+1)
		}
	default:
		card := d.below(m.cards())
		m.known[card] = d.below(card*m.card + 1)
	}
}

// Heaps by a rule: each card of a sound one tells just what lies in it, whatever Offs knows, and none is lost then.
func TestSoundHeapsByARule(t *testing.T) {
	d := dice(16)
	remembered := 0
	for range 250 {
		for _, m := range d.soundHeap().ways() {
			h, twin := m.lay(t), m.lay(t)
			if e := h.Check(); e != api.OK {
				t.Fatalf("the rule: %v", e)
			}
			for card := range m.cards() {
				if want := m.fields(card); !slices.Equal(m.references(card), want) {
					t.Fatalf("the model: card %d: %v, not %v", card, m.references(card), want)
				}
				m.wantCard(t, h, twin, card)
			}
			for r := range m.states {
				remembered += len(h.Sets.Cards(r))
				if l := h.Lost([]int{r}); len(l) != 0 {
					t.Fatalf("Lost(%d): %v", r, l)
				}
			}
		}
	}
	if remembered < 10000 {
		t.Errorf("%d cards are remembered", remembered)
	}
}

// references are those of a card that are looked at.
func (m *model) references(card int) []int {
	var fields []int
	looks, _ := m.looks(card)
	for _, l := range looks {
		if !l.header {
			fields = append(fields, l.at)
		}
	}
	return fields
}

// Heaps by a rule with which something is amiss.
func TestBrokenHeapsByARule(t *testing.T) {
	d := dice(61)
	broken := 0
	for range 250 {
		m := pick(&d, d.soundHeap().ways())
		for range 6 {
			d.breach(m)
			h, twin := m.lay(t), m.lay(t)
			for card := range m.cards() {
				m.wantCard(t, h, twin, card)
				if _, e := m.looks(card); e != api.OK {
					broken++
				}
			}
		}
	}
	if broken < 1000 {
		t.Errorf("%d cards need a header that is none", broken)
	}
}

// The greatest heaps: the most regions with the greatest object, and regions of the most words that are one card each.
func TestGreatestHeaps(t *testing.T) {
	c := api.Config{Shift: 6, Regions: 65536, CardShift: 3, Threads: 1, Roots: 1, Young: 1}
	h, e := heap.New(c)
	if e != api.OK {
		t.Fatal(e)
	}
	for range 3 {
		h.Regions.Run(16384, 1048576)
	}
	h.Regions.Run(16384, 1048576)
	const at = 3 * 1048576
	h.Arena.Store(at, object(1048576, 1048575))
	for _, field := range []int{at + 1, at + 64, at + 524288, at + 1048568, at + 1048575} {
		h.Arena.Store(field, lead(0))
		if e := refine.Card(h, field/8); e != api.OK || !slices.Contains(h.Sets.Cards(0), field/8) {
			t.Errorf("Card(%d): %v", field/8, e)
		}
	}
	for _, card := range []int{524288, 524289, 1 << 40} {
		if e := refine.Card(h, card); e != api.ErrRange {
			t.Errorf("Card(%d): %v", card, e)
		}
	}
	c = api.Config{Shift: 20, Regions: 4, CardShift: 20, Threads: 1, Roots: 1, Young: 1}
	h, _ = heap.New(c)
	for range 4 {
		r, _ := h.Regions.Claim(api.Old)
		base, _ := h.Regions.Bump(r, 1048576)
		h.Arena.Store(base, object(10, 9))
		h.Arena.Store(base+10, object(1048566, 1048565))
		h.Arena.Store(base+1048575, lead((r+1)%4*1048576))
	}
	for card := range 4 {
		if e := refine.Card(h, card); e != api.OK || !slices.Equal(h.Sets.Cards((card+1)%4), []int{card}) {
			t.Errorf("Card(%d): %v, %v", card, e, h.Sets.Cards((card+1)%4))
		}
	}
}

// Two heaps that are laid alike: what is done to one isn't done to the other.
func TestTwoHeaps(t *testing.T) {
	m := stage().marked()
	one, other, twin := m.lay(t), m.lay(t), m.lay(t)
	w, _ := refine.New(one)
	one.Queue.Push(0, 5)
	refine.Card(one, 2)
	refine.Drain(one, []int{4})
	for card := range 4 {
		one.Queue.Push(0, card)
	}
	w.Step()
	w.Step()
	wantTwin(t, other, twin, "another heap")
}
