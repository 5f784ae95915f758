package offs_test

import (
	"math"
	"slices"
	"testing"

	"gleaner/api"
	"gleaner/geom"
	"gleaner/offs"
)

// maxWords is the chapter's bound, written out, so that the tests don't lean on what the package leans on.
const maxWords = 4194304

// laid is the geometry of so many cards of so many words.
func laid(cards, cardWords int) geom.Geom {
	return geom.Geom{Words: cards * cardWords, CardWords: cardWords, Cards: cards}
}

// small is the chapter's example.
func small() geom.Geom {
	return geom.Geom{Words: 256, RegionWords: 64, CardWords: 8, Regions: 4, Cards: 32, MaxSize: 192}
}

func newTable(t *testing.T, g geom.Geom) *offs.Table {
	t.Helper()
	x, e := offs.New(g)
	if x == nil || e != api.OK {
		t.Fatalf("New(%+v): %v, %v", g, x, e)
	}
	return x
}

// model is the plainest table: for each word, not only for cards' first ones, the object that was put there last.
type model struct {
	cardWords int
	known     []int
}

// none is what a model knows of a word that no object covers.
const none = -1

func newModel(g geom.Geom) model {
	m := model{g.CardWords, make([]int, g.Words)}
	for at := range m.known {
		m.known[at] = none
	}
	return m
}

// put notes an object word by word; what is asked is compared without sums that could wrap round.
func (m model) put(at, size int) api.Errno {
	if at < 0 || at > len(m.known) || size < 1 || size > len(m.known) || at+size > len(m.known) {
		return api.ErrRange
	}
	for word := at; word < at+size; word++ {
		m.known[word] = at
	}
	return api.OK
}

func (m model) drop(from, to int) api.Errno {
	if from < 0 || from > to || to > len(m.known) {
		return api.ErrRange
	}
	for word := from; word < to; word++ {
		m.known[word] = none
	}
	return api.OK
}

// first looks for the card's first word among all words.
func (m model) first(card int) (int, api.Errno) {
	for i, word := 0, 0; word < len(m.known); i, word = i+1, word+m.cardWords {
		if i != card {
			continue
		}
		if m.known[word] == none {
			return 0, api.ErrNone
		}
		return m.known[word], api.OK
	}
	return 0, api.ErrRange
}

// firsts is what is known of each card, by the model.
func (m model) firsts() []int {
	var all []int
	for word := 0; word < len(m.known); word += m.cardWords {
		all = append(all, m.known[word])
	}
	return all
}

// wantFirsts asks for each card, and for some beside them.
func wantFirsts(t *testing.T, x *offs.Table, want []int) {
	t.Helper()
	for card, at := range want {
		wantAt, wantE := at, api.OK
		if at == none {
			wantAt, wantE = 0, api.ErrNone
		}
		if got, e := x.First(card); got != wantAt || e != wantE {
			t.Fatalf("First(%d): %d, %v, not %d, %v", card, got, e, wantAt, wantE)
		}
	}
	for _, card := range []int{-1, len(want), len(want) + 1} {
		if got, e := x.First(card); got != 0 || e != api.ErrRange {
			t.Fatalf("%d cards: First(%d): %d, %v", len(want), card, got, e)
		}
	}
}

// both is a table, and the model that it is held against.
type both struct {
	g geom.Geom
	x *offs.Table
	m model
}

func newBoth(t *testing.T, g geom.Geom) both {
	t.Helper()
	return both{g, newTable(t, g), newModel(g)}
}

// full knows of an object for each card, all of them different: objects of one card each.
func full(t *testing.T, g geom.Geom) both {
	t.Helper()
	b := newBoth(t, g)
	for at := 0; at < g.Words; at += g.CardWords {
		b.put(t, at, g.CardWords)
	}
	return b
}

func (b both) put(t *testing.T, at, size int) {
	t.Helper()
	want := b.m.put(at, size)
	if e := b.x.Put(at, size); e != want {
		t.Fatalf("%d cards of %d words: Put(%d, %d): %v, not %v", b.g.Cards, b.g.CardWords, at, size, e, want)
	}
}

func (b both) drop(t *testing.T, from, to int) {
	t.Helper()
	want := b.m.drop(from, to)
	if e := b.x.Drop(from, to); e != want {
		t.Fatalf("%d cards of %d words: Drop(%d, %d): %v, not %v", b.g.Cards, b.g.CardWords, from, to, e, want)
	}
}

// wantKnown asks for all cards at once, and tells what was done if the answers are wrong.
func (b both) wantKnown(t *testing.T, done string, one, other int) {
	t.Helper()
	var got []int
	for card := range b.g.Cards {
		at, e := b.x.First(card)
		if e != api.OK {
			at = none
		}
		got = append(got, at)
	}
	if want := b.m.firsts(); !slices.Equal(got, want) {
		t.Fatalf("%d cards of %d words: %s(%d, %d): %v, not %v", b.g.Cards, b.g.CardWords, done, one, other, got, want)
	}
}

// smallGeoms have cards of one word, of powers of two and of other numbers; none, one, and some of them.
func smallGeoms() []geom.Geom {
	all := []geom.Geom{small()}
	for _, cardWords := range []int{1, 2, 3, 5, 6, 7, 8, 9, 12} {
		for _, cards := range []int{0, 1, 2, 3, 4} {
			all = append(all, laid(cards, cardWords))
		}
	}
	return append(all, laid(23, 1), laid(9, 3), laid(6, 8))
}

// greatGeoms have the most words, or nearly so: 4194303 is 3 times 1398101, and 4194300 is 12 times 349525.
func greatGeoms() []geom.Geom {
	return []geom.Geom{
		laid(maxWords, 1), laid(maxWords/2, 2), laid(maxWords/8, 8), laid(4, maxWords/4), laid(2, maxWords/2), laid(1, maxWords),
		laid(1398101, 3), laid(3, 1398101), laid(349525, 12), laid(1, maxWords-1), laid(maxWords-1, 1),
	}
}

// far are numbers of no word, size or card, at both ends of what an int can be and where sums wrap round.
var far = []int{
	math.MinInt, math.MinInt + 1, math.MinInt + 8, -1 << 62, -1<<32 - 1, -1 << 32, -maxWords, -257, -256, -8, -2, -1,
	maxWords + 1, 2 * maxWords, 1 << 32, 1<<32 + 1, 1<<32 + 8, 1 << 62, 1<<62 + 8, math.MaxInt - 256, math.MaxInt - 8, math.MaxInt - 1, math.MaxInt,
}

// around are the numbers about 0 and about a length, and the far ones.
func around(length int) []int {
	return append([]int{0, 1, length - 1, length, length + 1}, far...)
}

// P6.1

func TestNewKnowsOfNoObject(t *testing.T) {
	for _, g := range append(smallGeoms(), greatGeoms()...) {
		x := newTable(t, g)
		for card := range g.Cards {
			if at, e := x.First(card); at != 0 || e != api.ErrNone {
				t.Fatalf("%d cards of %d words: First(%d): %d, %v", g.Cards, g.CardWords, card, at, e)
			}
		}
		for _, card := range []int{-1, g.Cards, g.Words + 1} {
			if at, e := x.First(card); at != 0 || e != api.ErrRange {
				t.Fatalf("%d cards of %d words: First(%d): %d, %v", g.Cards, g.CardWords, card, at, e)
			}
		}
	}
}

// Of no words there are no cards, however many words a card had.
func TestNewOfNoWords(t *testing.T) {
	for _, cardWords := range []int{1, 3, 8, maxWords, maxWords + 1, 1 << 32, 1 << 62, math.MaxInt - 1, math.MaxInt} {
		x := newTable(t, laid(0, cardWords))
		wantFirsts(t, x, nil)
		if e := x.Put(0, 1); e != api.ErrRange {
			t.Errorf("cards of %d words: Put(0, 1): %v", cardWords, e)
		}
		if e := x.Drop(0, 0); e != api.OK {
			t.Errorf("cards of %d words: Drop(0, 0): %v", cardWords, e)
		}
		if e := x.Drop(0, 1); e != api.ErrRange {
			t.Errorf("cards of %d words: Drop(0, 1): %v", cardWords, e)
		}
	}
}

// What layer 2 lays is a geometry of a table.
func TestNewOfConfigurations(t *testing.T) {
	for _, r := range [][3]int{{6, 2, 3}, {6, 4, 6}, {6, 65536, 3}, {6, 65536, 6}, {10, 3, 7}, {20, 4, 3}, {20, 4, 20}} {
		c := api.Config{Shift: r[0], Regions: r[1], CardShift: r[2], Threads: 1, Roots: 1, Young: 1}
		g, e := geom.New(c)
		if e != api.OK {
			t.Fatalf("%+v: %v", c, e)
		}
		x := newTable(t, g)
		last, _ := g.First(g.Cards - 1)
		if e := x.Put(last-1, 2); e != api.OK {
			t.Fatalf("%+v: Put(%d, 2): %v", g, last-1, e)
		}
		if at, e := x.First(g.Cards - 1); at != last-1 || e != api.OK {
			t.Errorf("%+v: First(%d): %d, %v", g, g.Cards-1, at, e)
		}
		if at, e := x.First(g.Cards - 2); at != 0 || e != api.ErrNone {
			t.Errorf("%+v: First(%d): %d, %v", g, g.Cards-2, at, e)
		}
	}
}

// The other numbers of a geometry aren't asked, and change nothing.
func TestNewAsksForNoOtherNumbers(t *testing.T) {
	for _, n := range append([]int{0, 1, 3, 64}, far...) {
		g := laid(4, 8)
		g.RegionWords, g.Regions, g.MaxSize = n, n, n
		b := newBoth(t, g)
		b.put(t, 7, 20)
		wantFirsts(t, b.x, []int{none, 7, 7, 7})
	}
}

func wantRefused(t *testing.T, g geom.Geom) {
	t.Helper()
	if x, e := offs.New(g); x != nil || e != api.ErrConfig {
		t.Errorf("New(%+v): %v, %v", g, x, e)
	}
}

// Each small geometry may be just if its cards, word by word, are its words, with none left over.
func TestEachSmallGeometry(t *testing.T) {
	for words := -4; words <= 30; words++ {
		for cardWords := -4; cardWords <= 32; cardWords++ {
			for cards := -5; cards <= 32; cards++ {
				g := geom.Geom{Words: words, CardWords: cardWords, Cards: cards}
				if words >= 0 && cardWords >= 1 && cards*cardWords == words {
					wantFirsts(t, newTable(t, g), slices.Repeat([]int{none}, cards))
				} else {
					wantRefused(t, g)
				}
			}
		}
	}
}

func TestNewRefusesCardWords(t *testing.T) {
	for _, cardWords := range []int{0, -1, -2, -8, -256, -1 << 32, -1 << 62, math.MinInt + 1, math.MinInt} {
		for _, words := range []int{0, 8, 256, maxWords, -256, math.MinInt} {
			for _, cards := range []int{0, 1, 8, 32, maxWords, -1, -32, math.MinInt} {
				wantRefused(t, geom.Geom{Words: words, CardWords: cardWords, Cards: cards})
			}
			if cardWords != 0 {
				// The quotient is right; of the least number and -1 it is the least number again.
				wantRefused(t, geom.Geom{Words: words, CardWords: cardWords, Cards: words / cardWords})
			}
		}
	}
}

func TestNewRefusesWords(t *testing.T) {
	for _, words := range []int{
		-1, -7, -8, -9, -256, -maxWords, -1 << 32, -1 << 62, math.MinInt + 1, math.MinInt,
		maxWords + 1, maxWords + 8, maxWords + 3, 2 * maxWords, 1 << 32, 1<<32 + 256, 1 << 62, math.MaxInt - 7, math.MaxInt,
	} {
		for _, cardWords := range []int{1, 2, 3, 8, 256, maxWords, maxWords + 1, 1 << 32, math.MaxInt} {
			// The quotient is right, rounded either way, or is that of the words' lowest bits.
			for _, cards := range []int{words / cardWords, words/cardWords + 1, words/cardWords - 1, int(uint32(words)) / cardWords, 0} {
				wantRefused(t, geom.Geom{Words: words, CardWords: cardWords, Cards: cards})
			}
		}
		wantRefused(t, geom.Geom{Words: words, CardWords: words, Cards: 1})
	}
}

func TestNewRefusesCards(t *testing.T) {
	for _, g := range append(smallGeoms(), laid(maxWords, 1), laid(maxWords/8, 8), laid(1, maxWords), laid(1398101, 3)) {
		newTable(t, g)
		right := g.Cards
		for _, cards := range append([]int{
			right - 1, right + 1, -right - 1, right + 1<<32, right - 1<<32, right + math.MinInt, g.Words + 1,
			// What so many cards have is more than an int can be, and just as much in its lowest bits.
			right + 1<<61, right + 1<<62,
		}, far...) {
			g.Cards = cards
			wantRefused(t, g)
		}
	}
}

// Words that are left over behind the last card make no geometry, whichever way their cards are counted.
func TestNewRefusesWordsLeftOver(t *testing.T) {
	for _, g := range []geom.Geom{
		{Words: 17, CardWords: 8}, {Words: 15, CardWords: 8}, {Words: 20, CardWords: 8}, {Words: 255, CardWords: 8}, {Words: 257, CardWords: 8},
		{Words: 10, CardWords: 3}, {Words: 11, CardWords: 3}, {Words: 1, CardWords: 2}, {Words: 7, CardWords: 8}, {Words: 5, CardWords: math.MaxInt},
		{Words: maxWords, CardWords: 3}, {Words: maxWords - 1, CardWords: 2}, {Words: maxWords, CardWords: maxWords - 1}, {Words: maxWords, CardWords: maxWords + 1},
	} {
		down := g.Words / g.CardWords
		for _, cards := range []int{down - 1, down, down + 1, down + 2} {
			g.Cards = cards
			wantRefused(t, g)
		}
	}
}

// Each of these products is, or these quotients are, right in the lowest bits alone.
func TestNewRefusesNumbersThatWrapRound(t *testing.T) {
	for _, g := range []geom.Geom{
		{Words: 0, CardWords: 1 << 32, Cards: 1 << 32},
		{Words: 0, CardWords: 1 << 62, Cards: 4},
		{Words: 0, CardWords: 4, Cards: 1 << 62},
		{Words: 0, CardWords: 2, Cards: math.MinInt},
		{Words: 8, CardWords: 3, Cards: (1<<64 + 8) / 3},
		{Words: 8, CardWords: (1<<64 + 8) / 3, Cards: 3},
		{Words: 1, CardWords: math.MaxInt, Cards: math.MaxInt},
		{Words: 1, CardWords: -1, Cards: -1},
		{Words: 64, CardWords: 1<<32 + 8, Cards: 8},
		{Words: 64, CardWords: 1<<62 + 8, Cards: 8},
		{Words: 64, CardWords: math.MinInt + 8, Cards: 8},
		{Words: 64, CardWords: 8, Cards: math.MinInt + 8},
		{Words: 64 + math.MinInt, CardWords: 8, Cards: 8},
		{Words: 64 + 1<<32, CardWords: 8, Cards: 8},
		{Words: math.MinInt, CardWords: -1, Cards: math.MinInt},
		{Words: math.MinInt, CardWords: 1, Cards: math.MinInt},
		{Words: math.MinInt, CardWords: math.MinInt, Cards: 1},
		{Words: -256, CardWords: -8, Cards: 32},
		{Words: -256, CardWords: 8, Cards: -32},
		{Words: 256, CardWords: -8, Cards: -32},
	} {
		wantRefused(t, g)
	}
}

func TestNilTable(t *testing.T) {
	var x *offs.Table
	for _, one := range around(256) {
		if at, e := x.First(one); at != 0 || e != api.ErrNil {
			t.Errorf("First(%d): %d, %v", one, at, e)
		}
		for _, other := range around(256) {
			if e := x.Put(one, other); e != api.ErrNil {
				t.Errorf("Put(%d, %d): %v", one, other, e)
			}
			if e := x.Drop(one, other); e != api.ErrNil {
				t.Errorf("Drop(%d, %d): %v", one, other, e)
			}
		}
	}
}

// Tables of one geometry, and of others, know nothing of one another.
func TestTablesAreApart(t *testing.T) {
	g := small()
	one, other, third := newBoth(t, g), newBoth(t, g), newBoth(t, laid(32, 3))
	check := func() {
		t.Helper()
		wantFirsts(t, one.x, one.m.firsts())
		wantFirsts(t, other.x, other.m.firsts())
		wantFirsts(t, third.x, third.m.firsts())
	}
	one.put(t, 0, 256)
	check()
	other.put(t, 5, 100)
	check()
	third.put(t, 3, 93)
	check()
	one.drop(t, 0, 200)
	check()
	// What was handed in is the caller's own again.
	g.Words, g.CardWords, g.Cards = 0, 1, 0
	other.put(t, 250, 6)
	other.drop(t, 8, 9)
	check()
}

// P6.2

// Each object, and each that isn't one, is put over what is known of all cards, and where nothing is known.
func TestPutOfEachObject(t *testing.T) {
	for _, g := range smallGeoms() {
		if g.Words > 60 {
			continue
		}
		for at := -2; at <= g.Words+2; at++ {
			for size := -2; size <= g.Words+3; size++ {
				for _, b := range []both{newBoth(t, g), full(t, g)} {
					b.put(t, at, size)
					b.wantKnown(t, "Put", at, size)
				}
			}
		}
	}
}

// Numbers of which one is out of its bounds, or both are, or their sum alone is too great, also for an int.
func TestPutOfFarNumbers(t *testing.T) {
	for _, g := range smallGeoms() {
		b := full(t, g)
		known := b.m.firsts()
		for _, at := range around(g.Words) {
			for _, size := range around(g.Words) {
				if at >= 0 && at <= g.Words && size >= 1 && size <= g.Words-at {
					continue
				}
				if e := b.x.Put(at, size); e != api.ErrRange {
					t.Fatalf("%d cards of %d words: Put(%d, %d): %v", g.Cards, g.CardWords, at, size, e)
				}
			}
		}
		wantFirsts(t, b.x, known)
	}
}

// What an object of cards of 8 words is about the first word of the card 2, whose address is 16.
func TestPutAboutAFirstWord(t *testing.T) {
	for _, r := range []struct {
		what     string
		at, size int
		want     []int
	}{
		{"begins with it", 16, 1, []int{none, none, 16, none}},
		{"begins with it, and fills the card", 16, 8, []int{none, none, 16, none}},
		{"begins with it, and reaches into the next card", 16, 9, []int{none, none, 16, 16}},
		{"begins one word ahead of it, and ends there", 15, 1, []int{none, none, none, none}},
		{"begins one word ahead of it", 15, 2, []int{none, none, 15, none}},
		{"begins one word ahead of it, and ends with the card", 15, 9, []int{none, none, 15, none}},
		{"begins one word ahead of it, and reaches further", 15, 10, []int{none, none, 15, 15}},
		{"begins one word behind it", 17, 7, []int{none, none, none, none}},
		{"begins one word behind it, and reaches into the next card", 17, 8, []int{none, none, none, 17}},
		{"ends ahead of it", 8, 8, []int{none, 8, none, none}},
		{"ends with it", 8, 9, []int{none, 8, 8, none}},
		{"ends ahead of it, and begins in a card's midst", 9, 7, []int{none, none, none, none}},
		{"ends with it, and begins in a card's midst", 9, 8, []int{none, none, 9, none}},
		{"reaches over all", 0, 32, []int{0, 0, 0, 0}},
		{"reaches over all but one word", 1, 31, []int{none, 1, 1, 1}},
		{"is the first word", 0, 1, []int{0, none, none, none}},
		{"is the last word", 31, 1, []int{none, none, none, none}},
	} {
		x := newTable(t, laid(4, 8))
		if e := x.Put(r.at, r.size); e != api.OK {
			t.Fatalf("%s: %v", r.what, e)
		}
		t.Run(r.what, func(t *testing.T) { wantFirsts(t, x, r.want) })
	}
}

// An object that lies in a card's midst is of no matter to it, neither where nothing is known of the card nor where something is.
func TestPutInACardsMidst(t *testing.T) {
	for _, g := range []geom.Geom{laid(4, 8), laid(5, 7), laid(3, 2), small()} {
		for _, b := range []both{newBoth(t, g), full(t, g)} {
			known := b.m.firsts()
			for card := range g.Cards {
				first := card * g.CardWords
				for at := first + 1; at < first+g.CardWords; at++ {
					for size := 1; at+size <= first+g.CardWords; size++ {
						b.put(t, at, size)
					}
				}
			}
			wantFirsts(t, b.x, known)
		}
	}
}

// The object that was put last is the one that is known, whatever was put ahead, and of other cards nothing is changed.
func TestPutOverObjects(t *testing.T) {
	b := newBoth(t, small())
	for _, r := range []struct{ at, size int }{
		{0, 256}, {8, 8}, {100, 100}, {101, 3}, {120, 1}, {119, 3}, {0, 1}, {5, 200}, {255, 1}, {248, 8}, {0, 256}, {0, 256}, {1, 255}, {0, 8}, {0, 9},
	} {
		b.put(t, r.at, r.size)
		b.wantKnown(t, "Put", r.at, r.size)
	}
}

// The object at 0 is known as others are: it is not none.
func TestObjectAtNought(t *testing.T) {
	b := newBoth(t, laid(3, 8))
	wantFirsts(t, b.x, []int{none, none, none})
	b.put(t, 0, 17)
	wantFirsts(t, b.x, []int{0, 0, 0})
	b.drop(t, 8, 16)
	wantFirsts(t, b.x, []int{0, none, 0})
	b.drop(t, 0, 1)
	wantFirsts(t, b.x, []int{none, none, 0})
	b.put(t, 0, 1)
	wantFirsts(t, b.x, []int{0, none, 0})
	b.put(t, 1, 23)
	wantFirsts(t, b.x, []int{0, 1, 1})
}

// As many words as are left may be an object, also more than the greatest size of one.
func TestPutInTheMostWords(t *testing.T) {
	for _, g := range greatGeoms() {
		x := newTable(t, g)
		lastCard := g.Cards - 1
		lastFirst := lastCard * g.CardWords
		last := g.Words - 1
		for _, r := range []struct {
			at, size int
			want     api.Errno
		}{
			{last, 2, api.ErrRange}, {g.Words, 1, api.ErrRange}, {g.Words, 0, api.ErrRange}, {0, g.Words + 1, api.ErrRange}, {1, g.Words, api.ErrRange},
			{-1, g.Words, api.ErrRange}, {last, 0, api.ErrRange}, {last, -1, api.ErrRange}, {last, math.MaxInt, api.ErrRange}, {last, math.MaxInt - last, api.ErrRange}, {last, math.MaxInt - last + 1, api.ErrRange},
			{lastFirst, g.CardWords, api.OK}, {last, 1, api.OK},
		} {
			if e := x.Put(r.at, r.size); e != r.want {
				t.Fatalf("%d cards of %d words: Put(%d, %d): %v, not %v", g.Cards, g.CardWords, r.at, r.size, e, r.want)
			}
		}
		// The last word is a card's first one with cards of one word alone; there it is lastFirst, too.
		if at, e := x.First(lastCard); at != lastFirst || e != api.OK {
			t.Fatalf("%d cards of %d words: First(%d): %d, %v", g.Cards, g.CardWords, lastCard, at, e)
		}
		if e := x.Put(0, g.Words); e != api.OK {
			t.Fatalf("%d cards of %d words: Put(0, %d): %v", g.Cards, g.CardWords, g.Words, e)
		}
		for card := range g.Cards {
			if at, e := x.First(card); at != 0 || e != api.OK {
				t.Fatalf("%d cards of %d words: First(%d): %d, %v", g.Cards, g.CardWords, card, at, e)
			}
		}
	}
}

// Each address up to the last is kept whole.
func TestPutOfEachAddress(t *testing.T) {
	x := newTable(t, laid(maxWords, 1))
	for at := range maxWords {
		if e := x.Put(at, 1); e != api.OK {
			t.Fatalf("Put(%d, 1): %v", at, e)
		}
	}
	for card := range maxWords {
		if at, e := x.First(card); at != card || e != api.OK {
			t.Fatalf("First(%d): %d, %v", card, at, e)
		}
	}
}

// P6.3

func TestFirstRefusesCards(t *testing.T) {
	for _, g := range smallGeoms() {
		b := full(t, g)
		for _, card := range append([]int{g.Cards, g.Cards + 1, g.Words + 1, -g.Cards - 1, g.Cards + 1<<32, g.Cards + math.MinInt}, far...) {
			if at, e := b.x.First(card); at != 0 || e != api.ErrRange {
				t.Errorf("%d cards of %d words: First(%d): %d, %v", g.Cards, g.CardWords, card, at, e)
			}
			if at, e := b.m.first(card); at != 0 || e != api.ErrRange {
				t.Errorf("%d cards of %d words: the model knows a card %d: %d, %v", g.Cards, g.CardWords, card, at, e)
			}
		}
		wantFirsts(t, b.x, b.m.firsts())
	}
}

// First answers for each card, and for none besides, what the model tells of it, and changes nothing.
func TestFirstOfEachCard(t *testing.T) {
	for _, g := range smallGeoms() {
		b := newBoth(t, g)
		for _, r := range [][2]int{{0, g.CardWords + 1}, {g.CardWords + 1, 2 * g.CardWords}, {g.Words - 1, 1}} {
			b.put(t, r[0], r[1])
		}
		for range 2 {
			for card := -3; card <= g.Cards+3; card++ {
				want, wantE := b.m.first(card)
				if at, e := b.x.First(card); at != want || e != wantE {
					t.Fatalf("%d cards of %d words: First(%d): %d, %v, not %d, %v", g.Cards, g.CardWords, card, at, e, want, wantE)
				}
			}
		}
	}
}

// Each Drop, and each that may not be, of a table that knows of all cards, and of one object over all.
func TestDropOfEachTwo(t *testing.T) {
	for _, g := range smallGeoms() {
		if g.Words > 60 {
			continue
		}
		for from := -2; from <= g.Words+2; from++ {
			for to := -2; to <= g.Words+2; to++ {
				over := newBoth(t, g)
				over.put(t, 0, g.Words)
				for _, b := range []both{full(t, g), over} {
					b.drop(t, from, to)
					b.wantKnown(t, "Drop", from, to)
				}
			}
		}
	}
}

func TestDropOfFarNumbers(t *testing.T) {
	for _, g := range smallGeoms() {
		b := full(t, g)
		known := b.m.firsts()
		for _, from := range around(g.Words) {
			for _, to := range around(g.Words) {
				if from >= 0 && from <= to && to <= g.Words {
					continue
				}
				if e := b.x.Drop(from, to); e != api.ErrRange {
					t.Fatalf("%d cards of %d words: Drop(%d, %d): %v", g.Cards, g.CardWords, from, to, e)
				}
			}
		}
		wantFirsts(t, b.x, known)
	}
}

// What a Drop forgets of four cards of 8 words that one object covers, which begins ahead of all that is dropped.
func TestDropAboutFirstWords(t *testing.T) {
	for _, r := range []struct {
		what     string
		from, to int
		want     []int
	}{
		{"from a first word to itself", 8, 8, []int{0, 0, 0, 0}},
		{"from a word of the midst to itself", 12, 12, []int{0, 0, 0, 0}},
		{"from the first word to itself", 0, 0, []int{0, 0, 0, 0}},
		{"from the end to itself", 32, 32, []int{0, 0, 0, 0}},
		{"a first word", 8, 9, []int{0, none, 0, 0}},
		{"a card", 8, 16, []int{0, none, 0, 0}},
		{"a card and the next one's first word", 8, 17, []int{0, none, none, 0}},
		{"the word ahead of a first one", 7, 8, []int{0, 0, 0, 0}},
		{"the word ahead of a first one, and that", 7, 9, []int{0, none, 0, 0}},
		{"all of a card but its first word", 9, 16, []int{0, 0, 0, 0}},
		{"from within a card", 9, 32, []int{0, 0, none, none}},
		{"from within a card into the next one", 9, 17, []int{0, 0, none, 0}},
		{"to within a card", 0, 20, []int{none, none, none, 0}},
		{"the first word", 0, 1, []int{none, 0, 0, 0}},
		{"the last word", 31, 32, []int{0, 0, 0, 0}},
		{"the last card", 24, 32, []int{0, 0, 0, none}},
		{"all but the first word", 1, 32, []int{0, none, none, none}},
		{"all but the last word", 0, 31, []int{none, none, none, none}},
		{"all", 0, 32, []int{none, none, none, none}},
	} {
		x := newTable(t, laid(4, 8))
		if e := x.Put(0, 32); e != api.OK {
			t.Fatal(e)
		}
		if e := x.Drop(r.from, r.to); e != api.OK {
			t.Fatalf("%s: %v", r.what, e)
		}
		t.Run(r.what, func(t *testing.T) { wantFirsts(t, x, r.want) })
	}
}

func TestDropInTheMostWords(t *testing.T) {
	for _, g := range greatGeoms() {
		x := newTable(t, g)
		lastFirst := (g.Cards - 1) * g.CardWords
		if e := x.Put(0, g.Words); e != api.OK {
			t.Fatal(e)
		}
		for _, r := range []struct {
			from, to int
			want     api.Errno
		}{
			{0, g.Words + 1, api.ErrRange}, {g.Words, g.Words + 1, api.ErrRange}, {-1, g.Words, api.ErrRange}, {g.Words, g.Words - 1, api.ErrRange}, {g.Words + 1, g.Words + 1, api.ErrRange},
			{g.Words, g.Words, api.OK}, {lastFirst + 1, g.Words, api.OK}, {0, 0, api.OK},
		} {
			if e := x.Drop(r.from, r.to); e != r.want {
				t.Fatalf("%d cards of %d words: Drop(%d, %d): %v, not %v", g.Cards, g.CardWords, r.from, r.to, e, r.want)
			}
			for _, card := range []int{0, g.Cards / 2, g.Cards - 1} {
				if at, e := x.First(card); at != 0 || e != api.OK {
					t.Fatalf("%d cards of %d words: Drop(%d, %d), First(%d): %d, %v", g.Cards, g.CardWords, r.from, r.to, card, at, e)
				}
			}
		}
		if e := x.Drop(lastFirst, lastFirst+1); e != api.OK {
			t.Fatal(e)
		}
		for card := range g.Cards {
			want := api.OK
			if card == g.Cards-1 {
				want = api.ErrNone
			}
			if at, e := x.First(card); at != 0 || e != want {
				t.Fatalf("%d cards of %d words: First(%d): %d, %v", g.Cards, g.CardWords, card, at, e)
			}
		}
	}
}

// P6.4

// numbers gives numbers from all over by a rule that is always the same.
type numbers uint64

func (n *numbers) below(bound int) int {
	*n = *n*6364136223846793005 + 1442695040888963407
	return int(uint64(*n) >> 33 % uint64(bound))
}

// object is one that is put: its address and its size.
type object struct{ at, size int }

// row lays objects one behind the other, from an address up to another at most.
func row(n *numbers, from, to, most int) []object {
	var all []object
	for from < to && n.below(200) > 0 {
		o := object{from, 1 + n.below(min(most, to-from))}
		all = append(all, o)
		from += o.size
	}
	return all
}

// coverer is the one object that covers a word; none, if no one does.
func coverer(t *testing.T, all []object, word int) int {
	t.Helper()
	found := none
	for _, o := range all {
		if o.at <= word && word < o.at+o.size {
			if found != none {
				t.Fatalf("two objects cover the word %d", word)
			}
			found = o.at
		}
	}
	return found
}

// wantCovered holds each card against the objects themselves, without a model.
func wantCovered(t *testing.T, g geom.Geom, x *offs.Table, all []object) {
	t.Helper()
	want := make([]int, g.Cards)
	for card := range want {
		want[card] = coverer(t, all, card*g.CardWords)
	}
	wantFirsts(t, x, want)
}

func putAll(t *testing.T, x *offs.Table, all []object) {
	t.Helper()
	for _, o := range all {
		if e := x.Put(o.at, o.size); e != api.OK {
			t.Fatalf("Put(%d, %d): %v", o.at, o.size, e)
		}
	}
}

// Rows from each card's first word on, of small objects, of such as a card's words, and of greater ones; in whatever order they are put.
func TestRowsOfObjects(t *testing.T) {
	var n numbers = 6
	for _, g := range append(smallGeoms(), laid(40, 8), laid(40, 7), laid(100, 3), laid(200, 1)) {
		for card := range g.Cards {
			for _, most := range []int{1, 2, g.CardWords, g.CardWords + 1, 5 * g.CardWords, g.Words} {
				all := row(&n, card*g.CardWords, g.Words, most)
				x := newTable(t, g)
				putAll(t, x, all)
				wantCovered(t, g, x, all)
				slices.Reverse(all)
				x = newTable(t, g)
				putAll(t, x, all)
				wantCovered(t, g, x, all)
				// A row over another one, once that is dropped, is known alone.
				other := row(&n, 0, g.Words, most)
				if e := x.Drop(0, g.Words); e != api.OK {
					t.Fatal(e)
				}
				putAll(t, x, other)
				wantCovered(t, g, x, other)
			}
		}
	}
}

// From each card that a great row covers, First leads to the object that covers its first word.
func TestGreatRowsOfObjects(t *testing.T) {
	for _, g := range []geom.Geom{laid(maxWords/8, 8), laid(maxWords, 1), laid(1398101, 3), laid(maxWords/512, 512)} {
		for _, most := range []int{3, 100, 1048576} {
			n := numbers(most)
			x := newTable(t, g)
			card, at := 0, 0
			for at < g.Words {
				size := 1 + n.below(min(most, g.Words-at))
				if e := x.Put(at, size); e != api.OK {
					t.Fatalf("Put(%d, %d): %v", at, size, e)
				}
				// Of the cards that the row has come to, this object's are asked.
				for ; card*g.CardWords < at+size; card++ {
					if got, e := x.First(card); got != at || e != api.OK {
						t.Fatalf("%d cards of %d words: First(%d): %d, %v, not %d", g.Cards, g.CardWords, card, got, e, at)
					}
				}
				if got, e := x.First(card); card < g.Cards && (got != 0 || e != api.ErrNone) {
					t.Fatalf("%d cards of %d words: First(%d): %d, %v", g.Cards, g.CardWords, card, got, e)
				}
				at += size
			}
			if card != g.Cards {
				t.Fatalf("%d cards of %d words: %d were come to", g.Cards, g.CardWords, card)
			}
		}
	}
}

// All calls, one behind the other by a rule: what was told ahead is all that an answer hangs on.
func TestManyCalls(t *testing.T) {
	var n numbers = 66
	for _, g := range append(smallGeoms(), laid(12, 8), laid(30, 3)) {
		b := newBoth(t, g)
		for range 600 {
			one := n.below(g.Words+5) - 2
			other := n.below(g.Words+5) - 2
			switch n.below(4) {
			case 0:
				b.drop(t, one, other)
				b.wantKnown(t, "Drop", one, other)
			case 1:
				b.put(t, one, 1+other%4)
				b.wantKnown(t, "Put", one, 1+other%4)
			default:
				b.put(t, one, other)
				b.wantKnown(t, "Put", one, other)
			}
		}
	}
}

// The chapter's examples, in their order.
func TestExamples(t *testing.T) {
	x := newTable(t, small())
	for _, o := range []object{{0, 5}, {5, 20}, {25, 7}} {
		if e := x.Put(o.at, o.size); e != api.OK {
			t.Errorf("Put(%d, %d): %v", o.at, o.size, e)
		}
	}
	first := func(card, want int, wantE api.Errno) {
		t.Helper()
		if at, e := x.First(card); at != want || e != wantE {
			t.Errorf("First(%d): %d, %v, not %d, %v", card, at, e, want, wantE)
		}
	}
	first(0, 0, api.OK)
	first(1, 5, api.OK)
	first(2, 5, api.OK)
	first(3, 5, api.OK)
	first(4, 0, api.ErrNone)
	if e := x.Drop(8, 24); e != api.OK {
		t.Error("Drop(8, 24)", e)
	}
	first(1, 0, api.ErrNone)
	first(2, 0, api.ErrNone)
	first(3, 5, api.OK)
	first(32, 0, api.ErrRange)
	if e := x.Put(250, 7); e != api.ErrRange {
		t.Error("Put(250, 7)", e)
	}
}
