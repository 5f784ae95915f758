package cards_test

import (
	"math"
	"slices"
	"testing"

	"gleaner/api"
	"gleaner/cards"
	"gleaner/geom"
	"gleaner/region"
)

// maxWords is the bound of cards, written out, so that the tests don't lean on what the package leans on.
const maxWords = 4194304

// far are numbers of no card and no word, at both ends of what an int can be and where sums, differences and narrowings wrap round.
var far = []int{
	math.MinInt, math.MinInt + 1, math.MinInt + 31, math.MinInt + 63, math.MinInt + 64, math.MinInt + 255, math.MinInt + maxWords, -1 << 62,
	-1<<32 - 1, -1 << 32, 1 - 1<<32, 31 - 1<<32, -1 << 31, -maxWords - 1, -maxWords, 1 - maxWords, -257, -256, -255, -65, -64, -63, -33, -32, -31, -2, -1,
	maxWords, maxWords + 1, maxWords + 2, maxWords + 31, 2 * maxWords, 1<<31 - 1, 1 << 31, 1<<32 - 1, 1 << 32, 1<<32 + 1, 1<<32 + 31, 1<<32 + 64, 1 << 57, 1 << 58, 1<<58 + 1, 1 << 62, 1<<62 + 1,
	math.MaxInt - maxWords, math.MaxInt - 256, math.MaxInt - 64, math.MaxInt - 63, math.MaxInt - 31, math.MaxInt - 1, math.MaxInt,
}

// around are the numbers about a table's bounds that are none of its cards, and the far ones that aren't.
func around(length int) []int {
	all := []int{-1, -2, -length, ^length, length, length + 1, length + 2, 2*length + 64}
	return slices.DeleteFunc(append(all, far...), func(n int) bool { return n >= 0 && n < length })
}

// sizes are of few cards, and lie about powers of two and their multiples.
var sizes = []int{0, 1, 2, 3, 7, 8, 9, 31, 32, 33, 63, 64, 65, 127, 128, 129, 130, 191, 192, 193, 200, 255, 256, 257, 1000}

// small is that of the chapter's example.
func small() geom.Geom {
	return geom.Geom{Words: 256, RegionWords: 64, CardWords: 8, Regions: 4, Cards: 32, MaxSize: 192}
}

// nothingBut is a geometry that is nothing but its Cards.
func nothingBut(cards int) geom.Geom {
	return geom.Geom{Cards: cards}
}

func newTable(t *testing.T, g geom.Geom) *cards.Table {
	t.Helper()
	x, e := cards.New(g)
	if x == nil || e != api.OK {
		t.Fatalf("New(%+v): %v, %v", g, x, e)
	}
	return x
}

// both is a table, and the plainest one that it is held against: a truth value for each card.
type both struct {
	x     *cards.Table
	dirty []bool
}

func newBoth(t *testing.T, length int) both {
	t.Helper()
	return both{newTable(t, nothingBut(length)), make([]bool, length)}
}

// turn makes a card dirty or clean, and asks whether that was a change.
func (b both) turn(t *testing.T, card int, dirty bool) {
	t.Helper()
	call, name := b.x.Clean, "Clean"
	if dirty {
		call, name = b.x.Dirty, "Dirty"
	}
	want, wantE := false, api.ErrRange
	if card >= 0 && card < len(b.dirty) {
		want, wantE = b.dirty[card] != dirty, api.OK
		b.dirty[card] = dirty
	}
	if got, e := call(card); got != want || e != wantE {
		t.Fatalf("%d cards: %s(%d): %v, %v, not %v, %v", len(b.dirty), name, card, got, e, want, wantE)
	}
}

// refuse makes each call that may not be done.
func (b both) refuse(t *testing.T) {
	t.Helper()
	for _, card := range around(len(b.dirty)) {
		b.turn(t, card, true)
		b.turn(t, card, false)
		if b.x.Is(card) {
			t.Fatalf("%d cards: Is(%d)", len(b.dirty), card)
		}
	}
}

// wantKnown asks for all that a table tells, twice, since telling may change nothing.
func (b both) wantKnown(t *testing.T) {
	t.Helper()
	for range 2 {
		var list []int
		for card, dirty := range b.dirty {
			if b.x.Is(card) != dirty {
				t.Fatalf("%d cards: Is(%d): %v", len(b.dirty), card, !dirty)
			}
			if dirty {
				list = append(list, card)
			}
		}
		if got := b.x.List(); !slices.Equal(got, list) {
			t.Fatalf("%d cards: List: %v, not %v", len(b.dirty), got, list)
		}
		for _, card := range []int{-1, len(b.dirty), len(b.dirty) + 1} {
			if b.x.Is(card) {
				t.Fatalf("%d cards: Is(%d)", len(b.dirty), card)
			}
		}
	}
}

// P9.1

// wantClean asks a new table for its cards: they are so many, and none is dirty.
func wantClean(t *testing.T, x *cards.Table, length int) {
	t.Helper()
	b := both{x, make([]bool, length)}
	b.wantKnown(t)
	b.refuse(t)
	if length == 0 {
		return
	}
	b.turn(t, length-1, false)
	b.turn(t, length-1, true)
	b.turn(t, 0, length == 1)
	b.turn(t, 0, false)
	if got, want := x.Is(length-1), length > 1; got != want {
		t.Fatalf("%d cards: Is(%d): %v", length, length-1, got)
	}
}

func TestNewMakesAllCardsClean(t *testing.T) {
	for _, length := range append([]int{maxWords / 8, maxWords/2 + 1, maxWords - 64, maxWords - 1, maxWords}, sizes...) {
		wantClean(t, newTable(t, nothingBut(length)), length)
	}
	for length := range 300 {
		wantClean(t, newTable(t, nothingBut(length)), length)
	}
}

// The edges that the promise names, each with its answer written out.
func TestNewAtTheEdges(t *testing.T) {
	for _, r := range []struct {
		length int
		e      api.Errno
	}{
		{-1, api.ErrConfig}, {0, api.OK}, {1, api.OK}, {4194303, api.OK}, {4194304, api.OK}, {4194305, api.ErrConfig}, {4194306, api.ErrConfig},
		{-2, api.ErrConfig}, {-63, api.ErrConfig}, {-64, api.ErrConfig}, {-65, api.ErrConfig}, {-4194304, api.ErrConfig},
		{math.MinInt, api.ErrConfig}, {math.MinInt + 1, api.ErrConfig}, {math.MaxInt, api.ErrConfig}, {math.MaxInt - 62, api.ErrConfig},
		// Of these the lowest 32 bits alone could be Cards.
		{1 << 32, api.ErrConfig}, {1<<32 + 32, api.ErrConfig}, {-1 << 32, api.ErrConfig}, {32 - 1<<32, api.ErrConfig}, {math.MinInt + 32, api.ErrConfig},
	} {
		x, e := cards.New(nothingBut(r.length))
		if e != r.e || (x != nil) != (e == api.OK) {
			t.Errorf("New of %d cards: %v, %v", r.length, x, e)
		}
	}
}

func TestNewRefusesCards(t *testing.T) {
	for _, length := range far {
		if length == maxWords {
			continue
		}
		// No other number makes up for Cards that may not be.
		g := small()
		g.Cards = length
		for _, g := range []geom.Geom{nothingBut(length), g, {Words: length, RegionWords: 1, CardWords: 1, Regions: length, Cards: length}} {
			if x, e := cards.New(g); x != nil || e != api.ErrConfig {
				t.Errorf("New(%+v): %v, %v", g, x, e)
			}
		}
	}
}

// Cards are all that New asks for, whatever the other numbers are.
func TestNewAsksForCardsAlone(t *testing.T) {
	for _, n := range append([]int{0, 1, 8, 31, 32, 33, 64}, far...) {
		for _, g := range []geom.Geom{
			{Words: n, RegionWords: n, CardWords: n, Regions: n, Cards: 33, MaxSize: n},
			{Words: n, RegionWords: 64, CardWords: 8, Regions: 4, Cards: 33, MaxSize: 192},
			{Words: 256, RegionWords: n, CardWords: 8, Regions: 4, Cards: 33, MaxSize: 192},
			{Words: 256, RegionWords: 64, CardWords: n, Regions: 4, Cards: 33, MaxSize: 192},
			{Words: 256, RegionWords: 64, CardWords: 8, Regions: n, Cards: 33, MaxSize: 192},
			{Words: 256, RegionWords: 64, CardWords: 8, Regions: 4, Cards: 33, MaxSize: n},
		} {
			wantClean(t, newTable(t, g), 33)
		}
	}
}

// A heap's table has the cards of its geometry.
func TestNewOfConfigurations(t *testing.T) {
	for _, g := range configured(t) {
		x := newTable(t, g)
		for _, r := range []struct {
			card int
			e    api.Errno
		}{{-1, api.ErrRange}, {0, api.OK}, {g.Cards - 1, api.OK}, {g.Cards, api.ErrRange}} {
			if changed, e := x.Dirty(r.card); changed != (r.e == api.OK) || e != r.e {
				t.Errorf("%+v: Dirty(%d): %v, %v", g, r.card, changed, e)
			}
		}
	}
}

// A nil table comes ahead of any other fault.
func TestNilTable(t *testing.T) {
	var none *cards.Table
	refused, _ := cards.New(nothingBut(-1))
	for _, x := range []*cards.Table{none, refused} {
		for _, card := range append([]int{0, 1, 31, 32, 63, 64, maxWords - 1}, far...) {
			if x.Is(card) {
				t.Errorf("Is(%d)", card)
			}
			if changed, e := x.Dirty(card); changed || e != api.ErrNil {
				t.Errorf("Dirty(%d): %v, %v", card, changed, e)
			}
			if changed, e := x.Clean(card); changed || e != api.ErrNil {
				t.Errorf("Clean(%d): %v, %v", card, changed, e)
			}
			if x.Is(card) || len(x.List()) != 0 {
				t.Errorf("%d is dirty: %v", card, x.List())
			}
		}
	}
}

// Tables of as many cards, and of others, know nothing of one another.
func TestTablesAreApart(t *testing.T) {
	g := small()
	one, other := both{newTable(t, g), make([]bool, 32)}, both{newTable(t, g), make([]bool, 32)}
	third := newBoth(t, 100)
	check := func() {
		t.Helper()
		one.wantKnown(t)
		other.wantKnown(t)
		third.wantKnown(t)
	}
	for card := range 32 {
		one.turn(t, card, true)
		check()
		other.turn(t, 31-card, true)
		check()
		third.turn(t, card, true)
		check()
	}
	for card := range 32 {
		one.turn(t, card, false)
		check()
	}
	// What was handed in is the caller's own again.
	g.Words, g.Cards = 0, 0
	one.turn(t, 31, true)
	other.turn(t, 31, false)
	check()
	one.refuse(t)
	check()
}

// P9.2

// Each call, of each card, after each set of dirty cards that there may be.
func TestEachCallOfFewCards(t *testing.T) {
	for length := range 8 {
		for set := range 1 << length {
			for card := -2; card < length+2; card++ {
				for _, dirty := range []bool{false, true} {
					b := newBoth(t, length)
					for other := range length {
						if set>>other&1 != 0 {
							b.turn(t, other, true)
						}
					}
					b.wantKnown(t)
					b.turn(t, card, dirty)
					b.wantKnown(t)
					// Once more it is no change.
					b.turn(t, card, dirty)
					b.wantKnown(t)
				}
			}
		}
	}
}

// orders gives each order of the numbers below n.
func orders(n int) [][]int {
	if n == 0 {
		return [][]int{nil}
	}
	var all [][]int
	for _, shorter := range orders(n - 1) {
		for at := range n {
			all = append(all, slices.Insert(slices.Clone(shorter), at, n-1))
		}
	}
	return all
}

// Five cards are made dirty in each order, and clean again in each, close together and far apart.
func TestEachOrder(t *testing.T) {
	for _, chosen := range [][]int{{0, 1, 2, 3, 4}, {0, 63, 64, 127, 129}} {
		b := newBoth(t, 130)
		for _, there := range orders(len(chosen)) {
			for _, back := range orders(len(chosen)) {
				for _, i := range there {
					b.turn(t, chosen[i], true)
				}
				if got := b.x.List(); !slices.Equal(got, chosen) {
					t.Fatalf("%v, %v: %v", there, chosen, got)
				}
				for _, i := range back {
					b.turn(t, chosen[i], false)
				}
				if got := b.x.List(); len(got) != 0 {
					t.Fatalf("%v, %v: %v", back, chosen, got)
				}
			}
		}
		b.wantKnown(t)
	}
}

// Each card of tables of many sizes is dirty alone, and clean alone.
func TestEachCardAlone(t *testing.T) {
	for _, length := range sizes {
		one, all := newBoth(t, length), newBoth(t, length)
		for card := range length {
			all.turn(t, card, true)
		}
		all.wantKnown(t)
		for card := range length {
			one.turn(t, card, true)
			one.wantKnown(t)
			one.turn(t, card, false)
			all.turn(t, card, false)
			all.wantKnown(t)
			all.turn(t, card, true)
		}
		one.wantKnown(t)
		all.wantKnown(t)
	}
}

// The edges that the promise names, each with its answer written out.
func TestCardsAtTheEdges(t *testing.T) {
	for _, length := range []int{1, 2, 32, 63, 64, 65, 128, 130, maxWords - 1, maxWords} {
		x := newTable(t, nothingBut(length))
		for i, r := range []struct {
			call    func(int) (bool, api.Errno)
			card    int
			changed bool
			e       api.Errno
			dirty   bool
		}{
			{x.Clean, -1, false, api.ErrRange, false},
			{x.Clean, length, false, api.ErrRange, false},
			{x.Dirty, -1, false, api.ErrRange, false},
			{x.Dirty, length, false, api.ErrRange, false},
			{x.Clean, length - 1, false, api.OK, false},
			{x.Dirty, length - 1, true, api.OK, true},
			{x.Dirty, length - 1, false, api.OK, true},
			{x.Dirty, length, false, api.ErrRange, false},
			{x.Clean, length, false, api.ErrRange, false},
			{x.Clean, length - 1, true, api.OK, false},
			{x.Clean, length - 1, false, api.OK, false},
			{x.Clean, 0, false, api.OK, false},
			{x.Dirty, 0, true, api.OK, true},
			{x.Dirty, 0, false, api.OK, true},
			{x.Dirty, -1, false, api.ErrRange, false},
			{x.Clean, -1, false, api.ErrRange, false},
			{x.Clean, 0, true, api.OK, false},
			{x.Clean, 0, false, api.OK, false},
		} {
			changed, e := r.call(r.card)
			if changed != r.changed || e != r.e || x.Is(r.card) != r.dirty {
				t.Fatalf("%d cards: call %d, of %d: %v, %v; Is %v", length, i, r.card, changed, e, x.Is(r.card))
			}
		}
		if l := x.List(); len(l) != 0 {
			t.Fatalf("%d cards: %v", length, l)
		}
	}
}

// A call that answers an error changes nothing, whichever cards are dirty.
func TestRefusedCallsChangeNothing(t *testing.T) {
	for _, length := range sizes {
		for _, every := range []int{1, 2, 3, length + 1} {
			b := newBoth(t, length)
			for card := 0; card < length; card += every {
				b.turn(t, card, true)
			}
			b.refuse(t)
			b.wantKnown(t)
			for card := 0; card < length; card += every {
				b.turn(t, card, false)
			}
			b.refuse(t)
			b.wantKnown(t)
		}
	}
}

func TestTableOfNoCards(t *testing.T) {
	for _, g := range []geom.Geom{{}, {Words: 256, RegionWords: 64, CardWords: 8, Regions: 4, MaxSize: 192}} {
		x := newTable(t, g)
		for _, card := range append([]int{0, 1, 31, 63, 64}, far...) {
			if x.Is(card) {
				t.Errorf("Is(%d)", card)
			}
			if changed, e := x.Dirty(card); changed || e != api.ErrRange {
				t.Errorf("Dirty(%d): %v, %v", card, changed, e)
			}
			if changed, e := x.Clean(card); changed || e != api.ErrRange {
				t.Errorf("Clean(%d): %v, %v", card, changed, e)
			}
		}
		if l := x.List(); len(l) != 0 {
			t.Errorf("List: %v", l)
		}
	}
}

// List of no dirty card, of one, of some and of all.
func TestListRises(t *testing.T) {
	x := newTable(t, small())
	want := func(all ...int) {
		t.Helper()
		if got := x.List(); !slices.Equal(got, all) {
			t.Fatalf("List: %v, not %v", got, all)
		}
	}
	dirty := func(all ...int) {
		t.Helper()
		for _, card := range all {
			if changed, e := x.Dirty(card); !changed || e != api.OK {
				t.Fatalf("Dirty(%d): %v, %v", card, changed, e)
			}
		}
	}
	want()
	dirty(17)
	want(17)
	dirty(31, 0, 16, 18, 5)
	want(0, 5, 16, 17, 18, 31)
	dirty(30, 29, 28, 27, 26, 25, 24, 23, 22, 21, 20, 19, 1, 2, 3, 4, 6, 7, 8, 9, 10, 11, 12, 13, 14, 15)
	want(0, 1, 2, 3, 4, 5, 6, 7, 8, 9, 10, 11, 12, 13, 14, 15, 16, 17, 18, 19, 20, 21, 22, 23, 24, 25, 26, 27, 28, 29, 30, 31)
	for card := range 31 {
		if changed, e := x.Clean(card); !changed || e != api.OK {
			t.Fatalf("Clean(%d): %v, %v", card, changed, e)
		}
	}
	want(31)
}

// What is done to a list is not done to the table, nor to another list; and what is done to the table is not done to a list.
func TestListIsNewMemory(t *testing.T) {
	for _, length := range []int{1, 32, 64, 130} {
		b := newBoth(t, length)
		b.turn(t, 0, true)
		b.turn(t, length-1, true)
		one, other := b.x.List(), b.x.List()
		was := slices.Clone(other)
		for i := range one {
			one[i] = -5
		}
		// The spare room behind a list is no one else's either.
		spare := one[:cap(one)]
		for i := range spare {
			spare[i] = 7
		}
		if !slices.Equal(other, was) {
			t.Errorf("%d cards: %v, not %v", length, other, was)
		}
		b.wantKnown(t)
		b.turn(t, 0, false)
		b.turn(t, length/2, true)
		if !slices.Equal(other, was) {
			t.Errorf("%d cards: %v, not %v", length, other, was)
		}
		b.wantKnown(t)
	}
}

// Each card of the greatest table: dirty, listed, and clean again.
func TestMostCards(t *testing.T) {
	x := newTable(t, nothingBut(maxWords))
	for card := range maxWords {
		// Odd ones rise, even ones fall, so that cards lie between dirty ones and behind them.
		if card%2 == 0 {
			card = maxWords - 2 - card
		}
		if changed, e := x.Dirty(card); !changed || e != api.OK || !x.Is(card) {
			t.Fatalf("Dirty(%d): %v, %v", card, changed, e)
		}
	}
	list := x.List()
	if len(list) != maxWords {
		t.Fatalf("%d cards are dirty", len(list))
	}
	for i, card := range list {
		if card != i {
			t.Fatalf("%d is listed at %d", card, i)
		}
		if changed, e := x.Clean(card); !changed || e != api.OK || x.Is(card) {
			t.Fatalf("Clean(%d): %v, %v", card, changed, e)
		}
	}
	if l := x.List(); len(l) != 0 {
		t.Fatalf("%d cards are dirty", len(l))
	}
}

// numbers gives numbers from all over by a rule that is always the same.
type numbers uint64

func (n *numbers) below(bound int) int {
	*n = *n*6364136223846793005 + 1442695040888963407
	return int(uint64(*n) >> 33 % uint64(bound))
}

// All calls, one behind the other by a rule: what was told ahead is all that an answer hangs on.
func TestManyCalls(t *testing.T) {
	var n numbers = 9
	for _, length := range sizes {
		b := newBoth(t, length)
		for range 600 {
			card := n.below(length+5) - 2
			// Now more cards get dirty, now more clean.
			b.turn(t, card, n.below(4) > n.below(4))
			b.wantKnown(t)
		}
	}
}

// P9.3

// young are the states of regions from which no store is noted; others are those from which stores are.
var (
	young  = []api.RegionState{api.Eden, api.Survivor}
	others = []api.RegionState{api.Free, api.Old, api.HumStart, api.HumCont}
)

// noStates are numbers that are no state: none of them is Eden or Survivor, but in the lowest bits of some.
var noStates = []api.RegionState{
	-1, -2, -3, 6, 7, 8, 9, 10, 17, 18, 257, 258, 1<<16 + 1, 1<<16 + 2, 1<<32 + 1, 1<<32 + 2, 1<<62 + 1, 1<<62 + 2,
	math.MaxInt, math.MaxInt - 1, math.MinInt, math.MinInt + 1, math.MinInt + 2,
}

// configured are geometries that layer 2 gives: of few words, of the most, of the greatest regions and of the most regions.
func configured(t *testing.T) []geom.Geom {
	t.Helper()
	var all []geom.Geom
	for _, c := range []api.Config{
		{Shift: 6, Regions: 2, CardShift: 3}, {Shift: 6, Regions: 3, CardShift: 6}, {Shift: 6, Regions: 4, CardShift: 3}, {Shift: 7, Regions: 5, CardShift: 4},
		{Shift: 10, Regions: 100, CardShift: 9}, {Shift: 20, Regions: 2, CardShift: 3}, {Shift: 20, Regions: 4, CardShift: 20}, {Shift: 6, Regions: 65536, CardShift: 3}, {Shift: 13, Regions: 511, CardShift: 9},
	} {
		c.Threads, c.Roots, c.Young = 1, 1, 1
		g, e := geom.New(c)
		if e != api.OK {
			t.Fatalf("%+v: %v", c, e)
		}
		all = append(all, g)
	}
	return all
}

// apart tells by divisions whether a field and what a reference leads to are words of two regions.
func apart(g geom.Geom, field int, to api.Ref) bool {
	if field < 0 || field >= g.Words || to == 0 || to > api.Ref(g.Words) {
		return false
	}
	return field/g.RegionWords != int(to-1)/g.RegionWords
}

// wantNote asks of a store whether it is noted, from regions of each state and of none.
func wantNote(t *testing.T, g geom.Geom, field int, to api.Ref, want bool) {
	t.Helper()
	for _, from := range young {
		if cards.Note(g, from, field, to) {
			t.Fatalf("%+v: Note(%d, %d, %d)", g, from, field, to)
		}
	}
	for _, from := range others {
		if cards.Note(g, from, field, to) != want {
			t.Fatalf("%+v: Note(%d, %d, %d): %v", g, from, field, to, !want)
		}
	}
	for _, from := range noStates {
		if cards.Note(g, from, field, to) != want {
			t.Fatalf("%+v: Note(%d, %d, %d): %v", g, from, field, to, !want)
		}
	}
}

// Each field and each object of small geometries, and some about them.
func TestNoteOfEachStore(t *testing.T) {
	for _, g := range configured(t)[:3] {
		for field := -2; field < g.Words+2; field++ {
			for to := range g.Words + 3 {
				wantNote(t, g, field, api.Ref(to), apart(g, field, api.Ref(to)))
			}
		}
	}
}

// Fields and objects about the bounds of regions, next to one another and far apart, in great geometries.
func TestNoteAboutBounds(t *testing.T) {
	for _, g := range configured(t) {
		var words []int
		for _, r := range []int{0, 1, 2, g.Regions / 2, g.Regions - 1, g.Regions} {
			bound := r * g.RegionWords
			words = append(words, bound-2, bound-1, bound, bound+1, bound+g.RegionWords/2)
		}
		for _, field := range words {
			for _, at := range words {
				// The references of -1 and -2 are nil and the greatest one.
				wantNote(t, g, field, api.Ref(at+1), apart(g, field, api.Ref(at+1)))
			}
		}
	}
}

// The edges that the words name, each with its answer written out.
func TestNoteAtTheEdges(t *testing.T) {
	for _, r := range []struct {
		field int
		to    api.Ref
		want  bool
	}{
		// Nil, from each end.
		{0, 0, false}, {64, 0, false}, {255, 0, false},
		// The first word, the last one, and one more.
		{64, 1, true}, {63, 1, false}, {0, 1, false}, {255, 1, true},
		{0, 256, true}, {191, 256, true}, {192, 256, false}, {255, 256, false},
		{0, 257, false}, {191, 257, false}, {192, 257, false}, {255, 257, false},
		// A field below 0, the last one, and behind it.
		{-1, 1, false}, {-1, 65, false}, {-1, 256, false}, {-64, 1, false}, {-65, 1, false}, {-256, 1, false},
		{255, 192, true}, {255, 193, false}, {256, 1, false}, {256, 192, false}, {256, 256, false}, {257, 1, false}, {320, 1, false},
		// In one region, at the two sides of a bound, and far apart.
		{5, 6, false}, {5, 7, false}, {0, 64, false}, {63, 64, false}, {63, 65, true}, {64, 64, true}, {64, 65, false}, {65, 65, false}, {127, 65, false},
		{127, 128, false}, {127, 129, true}, {128, 128, true}, {191, 193, true}, {192, 192, true}, {1, 200, true}, {200, 2, true}, {70, 250, true},
		// Both are no words, or one is.
		{-1, 0, false}, {256, 0, false}, {256, 257, false}, {-1, 257, false}, {300, 400, false},
	} {
		wantNote(t, small(), r.field, r.to, r.want)
	}
}

// Each state, written out.
func TestNoteOfEachState(t *testing.T) {
	g := small()
	for _, r := range []struct {
		from api.RegionState
		want bool
	}{
		{api.Free, true}, {api.Eden, false}, {api.Survivor, false}, {api.Old, true}, {api.HumStart, true}, {api.HumCont, true},
		{-1, true}, {6, true}, {257, true}, {1<<32 + 2, true}, {math.MaxInt, true}, {math.MinInt + 1, true},
	} {
		if got := cards.Note(g, r.from, 63, 65); got != r.want {
			t.Errorf("Note(%d, 63, 65): %v", r.from, got)
		}
		// Neither in one region nor of nil is there anything to note.
		if cards.Note(g, r.from, 63, 64) || cards.Note(g, r.from, 63, 0) {
			t.Errorf("Note(%d, 63, ..)", r.from)
		}
	}
}

// eachState gives a table of regions with two of each state at least, side by side and apart.
func eachState(t *testing.T, g geom.Geom) *region.Table {
	t.Helper()
	x, e := region.New(g)
	if e != api.OK {
		t.Fatal(e)
	}
	for _, s := range []api.RegionState{api.Eden, api.Old, api.Survivor, api.Survivor, api.Eden, api.Old} {
		if _, e := x.Claim(s); e != api.OK {
			t.Fatal(e)
		}
	}
	for range 2 {
		if _, e := x.Run(3, 3*g.RegionWords); e != api.OK {
			t.Fatal(e)
		}
	}
	return x
}

// Stores between regions of each two states: the state of the field's alone is asked.
func TestNoteBetweenEachTwoRegions(t *testing.T) {
	g := geom.Geom{Words: 14 * 64, RegionWords: 64, CardWords: 8, Regions: 14, Cards: 112, MaxSize: 832}
	x := eachState(t, g)
	met := [6][6]int{}
	for from := range g.Regions {
		for to := range g.Regions {
			state := x.State(from)
			want := from != to && slices.Contains(others, state)
			for _, field := range []int{0, 1, 31, 62, 63} {
				for _, at := range []int{0, 1, 31, 62, 63} {
					r := api.Ref(to*64 + at + 1)
					if got := cards.Note(g, state, from*64+field, r); got != want {
						t.Fatalf("from %d in %d to %d in %d: %v", state, from, x.State(to), to, got)
					}
				}
			}
			met[state][x.State(to)]++
		}
	}
	for from, row := range met {
		for to, n := range row {
			if n < 2 {
				t.Errorf("%d stores from %d to %d", n, from, to)
			}
		}
	}
}

// farRefs are references to no word: of all far numbers, and such as no int can hold.
func farRefs(words int) []api.Ref {
	all := []api.Ref{
		1<<63 - 1, 1 << 63, 1<<63 + 1, 1<<63 + 5, 1<<63 + 65, 1<<63 + 256, 3 << 62, 3<<62 + 1, math.MaxUint64 - 256, math.MaxUint64 - 64, math.MaxUint64 - 1, math.MaxUint64,
		1<<32 + 1, 1<<32 + 65, 1<<63 + 1<<32 + 1,
	}
	for _, n := range far {
		all = append(all, api.Ref(n), api.Ref(n)+1)
	}
	return slices.DeleteFunc(all, func(r api.Ref) bool { return r <= api.Ref(words) })
}

// Numbers that are no words, of the field, of the object and of both.
func TestNoteOfFarNumbers(t *testing.T) {
	for _, g := range configured(t) {
		refs := farRefs(g.Words)
		for _, to := range refs {
			for _, field := range []int{0, 1, g.RegionWords - 1, g.RegionWords, g.Words - 1} {
				wantNote(t, g, field, to, false)
			}
		}
		for _, field := range far {
			if field >= 0 && field < g.Words {
				continue
			}
			for _, to := range []api.Ref{0, 1, 2, 64, 65, api.Ref(g.RegionWords), api.Ref(g.RegionWords) + 1, api.Ref(g.Words)} {
				wantNote(t, g, field, to, false)
			}
			for _, to := range refs {
				wantNote(t, g, field, to, false)
			}
		}
	}
}

// Where there is no region there are no two, and nothing is noted.
func TestNoteWithoutRegions(t *testing.T) {
	for _, g := range []geom.Geom{{}, nothingBut(32), nothingBut(maxWords), {RegionWords: 64, CardWords: 8, Cards: 32}, {CardWords: 1, Cards: 1}} {
		for _, field := range append([]int{0, 1, 63, 64, 255, 256}, far...) {
			for _, to := range append([]api.Ref{0, 1, 2, 64, 65, 256, 257}, farRefs(0)...) {
				wantNote(t, g, field, to, false)
			}
		}
	}
}

// Of geometries that layer 2 never gives, its Cross says what two regions are.
func TestNoteLeavesRegionsToCross(t *testing.T) {
	numbers := []int{0, 1, 3, 7, 8, 63, 64, 100, 255, 256, -1, -8, math.MinInt, math.MaxInt, 1 << 62}
	for _, words := range numbers {
		for _, regionWords := range numbers {
			g := geom.Geom{Words: words, RegionWords: regionWords}
			for _, field := range numbers {
				for _, at := range numbers {
					if at >= 0 {
						wantNote(t, g, field, api.Ref(at)+1, g.Cross(field, at))
					}
				}
				wantNote(t, g, field, 0, false)
			}
		}
	}
}

// The chapter's examples, in their order.
func TestExamples(t *testing.T) {
	x := newTable(t, small())
	for i, r := range []struct {
		call func(int) (bool, api.Errno)
		card int
		want bool
		e    api.Errno
	}{
		{x.Dirty, 31, true, api.OK}, {x.Dirty, 31, false, api.OK}, {func(card int) (bool, api.Errno) { return x.Is(card), api.OK }, 31, true, api.OK},
		{x.Clean, 31, true, api.OK}, {x.Clean, 31, false, api.OK}, {x.Dirty, 32, false, api.ErrRange},
	} {
		if got, e := r.call(r.card); got != r.want || e != r.e {
			t.Errorf("%d, of %d: %v, %v", i, r.card, got, e)
		}
	}
	for _, r := range []struct {
		from  api.RegionState
		field int
		to    api.Ref
		want  bool
	}{{api.Old, 63, 65, true}, {api.Old, 63, 64, false}, {api.Eden, 63, 65, false}, {api.Old, 63, 0, false}, {api.HumCont, 200, 1, true}} {
		if got := cards.Note(small(), r.from, r.field, r.to); got != r.want {
			t.Errorf("Note(%d, %d, %d): %v", r.from, r.field, r.to, got)
		}
	}
}
