package remset_test

import (
	"math"
	"math/bits"
	"slices"
	"testing"

	"gleaner/api"
	"gleaner/geom"
	"gleaner/remset"
)

// The bounds, written out, so that the tests don't lean on what the package leans on.
const (
	maxWords   = 4194304
	maxRegions = 65536
	sparse     = 4
	fineMost   = 4
)

// far are numbers at both ends of what an int can be, where sums, products and narrowings wrap round.
var far = []int{
	math.MinInt, math.MinInt + 1, math.MinInt + 7, math.MinInt + 8, math.MinInt + 9, math.MinInt + 64, -1 << 62, -1 << 61, 1 - 1<<61, -1<<32 - 1, -1 << 32, 1 - 1<<32, 8 - 1<<32, 12 - 1<<32,
	-1 << 31, -maxWords - 1, -maxWords, -maxRegions, -257, -256, -255, -65, -64, -63, -13, -12, -9, -8, -7, -5, -4, -2, -1,
	maxRegions + 1, maxWords, maxWords + 1, 2 * maxWords, 1<<31 - 1, 1 << 31, 1<<32 - 1, 1 << 32, 1<<32 + 1, 1<<32 + 8, 1<<32 + 12, 1 << 60, 1<<60 + 1, 1 << 61, 1<<61 + 1, 1 << 62, 1<<62 + 1, 1<<62 + 12,
	math.MaxInt - maxWords, math.MaxInt - 64, math.MaxInt - 8, math.MaxInt - 7, math.MaxInt - 1, math.MaxInt,
}

// none are numbers of none of so many things: those about the bounds, and the far ones.
func none(length int) []int {
	all := append([]int{-length, ^length, length, length + 1, length + 8, 2 * length, length + 256, length + 1<<16}, far...)
	return slices.DeleteFunc(all, func(n int) bool { return n >= 0 && n < length })
}

// laid is the geometry of so many regions of so many cards of so many words.
func laid(regions, regionCards, cardWords int) geom.Geom {
	return geom.Geom{Words: regions * regionCards * cardWords, RegionWords: regionCards * cardWords, CardWords: cardWords, Regions: regions, Cards: regions * regionCards}
}

func newSets(t *testing.T, g geom.Geom) *remset.Sets {
	t.Helper()
	s, e := remset.New(g)
	if s == nil || e != api.OK {
		t.Fatalf("New(%+v): %v, %v", g, s, e)
	}
	return s
}

// model is the plainest sets: of each home the way of each source, and for each card whether it was added.
type model struct {
	regionCards int
	ways        [][]remset.Way
	added       [][]bool
}

func newModel(regions, regionCards int) model {
	m := model{regionCards: regionCards}
	for range regions {
		m.ways = append(m.ways, make([]remset.Way, regions))
		m.added = append(m.added, make([]bool, regions*regionCards))
	}
	return m
}

// isOne tells whether there is such a region.
func (m model) isOne(region int) bool {
	for r := range m.ways {
		if r == region {
			return true
		}
	}
	return false
}

// sourceOf looks among all regions for the one that has a card; -1, if there is none.
func (m model) sourceOf(card int) int {
	for r := range m.ways {
		if first := r * m.regionCards; card >= first && card < first+m.regionCards {
			return r
		}
	}
	return -1
}

// cardsOf tells of each card of a region whether it was added to a home.
func (m model) cardsOf(home, source int) []bool {
	return m.added[home][source*m.regionCards : (source+1)*m.regionCards]
}

func (m model) count(home, source int) int {
	count := 0
	for _, added := range m.cardsOf(home, source) {
		if added {
			count++
		}
	}
	return count
}

func (m model) has(home, card int) bool {
	source := m.sourceOf(card)
	return m.isOne(home) && source >= 0 && (m.added[home][card] || m.ways[home][source] == remset.InCoarse)
}

func (m model) fine(home int) []int {
	var all []int
	for source, way := range m.ways[home] {
		if way == remset.InFine {
			all = append(all, source)
		}
	}
	return all
}

func (m model) add(home, card int) (bool, api.Errno) {
	source := m.sourceOf(card)
	if !m.isOne(home) || source < 0 {
		return false, api.ErrRange
	}
	if source == home {
		return false, api.ErrShape
	}
	if m.has(home, card) {
		return false, api.OK
	}
	m.added[home][card] = true
	switch {
	case m.ways[home][source] == remset.Absent:
		m.ways[home][source] = remset.InSparse
	case m.ways[home][source] == remset.InSparse && m.count(home, source) == sparse+1:
		m.ways[home][source] = remset.InFine
		if fine := m.fine(home); len(fine) == fineMost+1 {
			m.coarsen(home, fine)
		}
	}
	return true, api.OK
}

// coarsen makes that of some sources coarse which has the most cards; they rise, so that it is the lowest of several.
func (m model) coarsen(home int, fine []int) {
	for count := m.regionCards; ; count-- {
		for _, source := range fine {
			if m.count(home, source) == count {
				m.ways[home][source] = remset.InCoarse
				return
			}
		}
	}
}

func (m model) forget(home, source int) {
	m.ways[home][source] = remset.Absent
	clear(m.cardsOf(home, source))
}

func (m model) clear(home int) api.Errno {
	if !m.isOne(home) {
		return api.ErrRange
	}
	for source := range m.ways {
		m.forget(home, source)
	}
	return api.OK
}

func (m model) scrub(source int) api.Errno {
	if !m.isOne(source) {
		return api.ErrRange
	}
	for home := range m.ways {
		m.forget(home, source)
	}
	return api.OK
}

// both are sets and their model.
type both struct {
	s *remset.Sets
	m model
}

func newBoth(t *testing.T, regions, regionCards int) both {
	t.Helper()
	// How many words a card has changes no answer.
	return both{newSets(t, laid(regions, regionCards, 1+(regions+regionCards)%9)), newModel(regions, regionCards)}
}

func (x both) add(t *testing.T, home, card int) {
	t.Helper()
	want, wantE := x.m.add(home, card)
	if added, e := x.s.Add(home, card); added != want || e != wantE {
		t.Fatalf("%d regions of %d cards: Add(%d, %d): %v, %v, not %v, %v", len(x.m.ways), x.m.regionCards, home, card, added, e, want, wantE)
	}
}

// addMore adds cards of a source by their numbers among those of its region.
func (x both) addMore(t *testing.T, home, source int, numbers ...int) {
	t.Helper()
	for _, n := range numbers {
		x.add(t, home, source*x.m.regionCards+n)
	}
}

// addFirst adds so many cards of a source, from its first one on.
func (x both) addFirst(t *testing.T, home, source, count int) {
	t.Helper()
	for n := range count {
		x.addMore(t, home, source, n)
	}
}

func (x both) clear(t *testing.T, home int) {
	t.Helper()
	want := x.m.clear(home)
	if e := x.s.Clear(home); e != want {
		t.Fatalf("Clear(%d): %v, not %v", home, e, want)
	}
}

func (x both) scrub(t *testing.T, source int) {
	t.Helper()
	want := x.m.scrub(source)
	if e := x.s.Scrub(source); e != want {
		t.Fatalf("Scrub(%d): %v, not %v", source, e, want)
	}
}

// wantSet holds all that is told of a home's set against the model, and the promise that nothing is lost.
func (x both) wantSet(t *testing.T, home int) {
	t.Helper()
	fine := 0
	for source, want := range x.m.ways[home] {
		way := x.s.Way(home, source)
		if way != want {
			t.Fatalf("%d regions of %d cards: Way(%d, %d): %v, not %v", len(x.m.ways), x.m.regionCards, home, source, way, want)
		}
		if way == remset.InFine {
			fine++
		}
	}
	if fine > fineMost {
		t.Fatalf("home %d: %d fine sources", home, fine)
	}
	var want []int
	for card, added := range x.m.added[home] {
		added = added || x.m.ways[home][card/x.m.regionCards] == remset.InCoarse
		if x.s.Has(home, card) != added {
			t.Fatalf("%d regions of %d cards: Has(%d, %d): %v", len(x.m.ways), x.m.regionCards, home, card, !added)
		}
		if added {
			want = append(want, card)
		}
	}
	if cards := x.s.Cards(home); !slices.Equal(cards, want) {
		t.Fatalf("%d regions of %d cards: Cards(%d): %v, not %v", len(x.m.ways), x.m.regionCards, home, cards, want)
	}
}

// wantKnown asks for all that is told, twice, since telling may change nothing.
func (x both) wantKnown(t *testing.T) {
	t.Helper()
	for range 2 {
		for home := range x.m.ways {
			x.wantSet(t, home)
		}
	}
}

// refuse makes each call that may not be done, and asks for what there isn't.
func (x both) refuse(t *testing.T) {
	t.Helper()
	regions := len(x.m.ways)
	cards := regions * x.m.regionCards
	for _, r := range none(regions) {
		x.clear(t, r)
		x.scrub(t, r)
		for _, card := range []int{0, cards / 2, cards - 1, cards, -1, math.MinInt} {
			x.add(t, r, card)
			if x.s.Has(r, card) {
				t.Fatalf("Has(%d, %d)", r, card)
			}
		}
		for _, other := range []int{0, regions / 2, regions - 1, regions, -1, r} {
			if x.s.Way(r, other) != remset.Absent || x.s.Way(other, r) != remset.Absent {
				t.Fatalf("Way of %d and %d", r, other)
			}
		}
		if list := x.s.Cards(r); len(list) != 0 {
			t.Fatalf("Cards(%d): %v", r, list)
		}
	}
	for home := range regions {
		for _, card := range none(cards) {
			x.add(t, home, card)
			if x.s.Has(home, card) {
				t.Fatalf("Has(%d, %d)", home, card)
			}
		}
		x.addFirst(t, home, home, x.m.regionCards)
	}
}

// P11.1

// The edges that the promise names, each with its answer written out.
func TestNewAtTheEdges(t *testing.T) {
	for _, r := range []struct {
		words, regionWords, cardWords, regions, cards int
		e                                             api.Errno
	}{
		{512, 64, 8, 8, 64, api.OK},
		{0, 0, 0, 0, 0, api.ErrConfig},
		// Regions.
		{64, 64, 8, 1, 8, api.OK},
		{0, 64, 8, 0, 0, api.ErrConfig},
		{-64, 64, 8, -1, -8, api.ErrConfig},
		{65535, 1, 1, 65535, 65535, api.OK},
		{65536, 1, 1, 65536, 65536, api.OK},
		{65537, 1, 1, 65537, 65537, api.ErrConfig},
		{131072, 2, 1, 65536, 131072, api.OK},
		{131074, 2, 1, 65537, 131074, api.ErrConfig},
		{4194304, 64, 8, 65536, 524288, api.OK},
		{4194304, 32, 8, 131072, 524288, api.ErrConfig},
		// CardWords and RegionWords.
		{1, 1, 1, 1, 1, api.OK},
		{8, 8, 0, 1, 8, api.ErrConfig},
		{8, 8, -1, 1, -8, api.ErrConfig},
		{8, 8, -8, 1, -1, api.ErrConfig},
		{0, 0, 1, 1, 0, api.ErrConfig},
		{0, 0, 8, 8, 0, api.ErrConfig},
		{-8, -8, 1, 1, -8, api.ErrConfig},
		{-8, -1, 1, 8, -8, api.ErrConfig},
		{-8, -8, -1, 1, 8, api.ErrConfig},
		{8, -8, 1, -1, 8, api.ErrConfig},
		{8, -8, -1, -1, -8, api.ErrConfig},
		// RegionWords that CardWords does and doesn't divide.
		{8, 8, 3, 1, 2, api.ErrConfig},
		{24, 8, 3, 3, 8, api.ErrConfig},
		{24, 8, 16, 3, 1, api.ErrConfig},
		{24, 8, 8, 3, 3, api.OK},
		{27, 9, 3, 3, 9, api.OK},
		{18, 6, 3, 3, 6, api.OK},
		{18, 6, 9, 3, 2, api.ErrConfig},
		{30, 10, 4, 3, 7, api.ErrConfig},
		{35, 35, 5, 1, 7, api.OK},
		// Words that are not Regions times RegionWords.
		{511, 64, 8, 8, 64, api.ErrConfig},
		{513, 64, 8, 8, 64, api.ErrConfig},
		{504, 64, 8, 8, 63, api.ErrConfig},
		{520, 64, 8, 8, 65, api.ErrConfig},
		{448, 64, 8, 8, 56, api.ErrConfig},
		{8, 8, 8, 2, 1, api.ErrConfig},
		{0, 64, 8, 8, 0, api.ErrConfig},
		{-512, 64, 8, 8, -64, api.ErrConfig},
		// Words at and above the most.
		{4194304, 4194304, 1, 1, 4194304, api.OK},
		{4194304, 2097152, 1, 2, 4194304, api.OK},
		{4194304, 4194304, 4194304, 1, 1, api.OK},
		{4194303, 4194303, 1, 1, 4194303, api.OK},
		{4194303, 1398101, 1, 3, 4194303, api.OK},
		{4194305, 4194305, 1, 1, 4194305, api.ErrConfig},
		{4194305, 838861, 1, 5, 4194305, api.ErrConfig},
		{4194306, 1398102, 1, 3, 4194306, api.ErrConfig},
		{4194368, 64, 8, 65537, 524296, api.ErrConfig},
		{4259840, 65, 1, 65536, 4259840, api.ErrConfig},
		{8388608, 4194304, 8, 2, 1048576, api.ErrConfig},
		// Cards that are not Words divided by CardWords.
		{512, 64, 8, 8, 63, api.ErrConfig},
		{512, 64, 8, 8, 65, api.ErrConfig},
		{512, 64, 8, 8, 512, api.ErrConfig},
		{512, 64, 8, 8, 8, api.ErrConfig},
		{512, 64, 8, 8, 0, api.ErrConfig},
		{512, 64, 8, 8, -64, api.ErrConfig},
		{512, 64, 64, 8, 8, api.OK},
		// Products and narrowings of these would look right.
		{2, 6148914691236517206, 1, 3, 2, api.ErrConfig},
		{65536, 1<<48 + 1, 1, 65536, 65536, api.ErrConfig},
		{0, 1 << 48, 1, 65536, 0, api.ErrConfig},
		{1 << 32, 1 << 31, 1, 2, 1 << 32, api.ErrConfig},
		{1<<32 + 512, 1<<29 + 64, 8, 8, 1<<29 + 64, api.ErrConfig},
		{512, 1<<61 + 64, 8, 8, 64, api.ErrConfig},
		{512, 64 - 1<<61, 8, 8, 64, api.ErrConfig},
		{512, 64, 8, 1<<58 + 8, 64, api.ErrConfig},
		{512, 64, 8, 8 - 1<<58, 64, api.ErrConfig},
		{512, 64, 8, 1<<32 + 8, 64, api.ErrConfig},
		{512, 1<<32 + 64, 8, 8, 64, api.ErrConfig},
		{1<<32 + 512, 64, 8, 8, 64, api.ErrConfig},
		{512, 64, 1<<32 + 8, 8, 64, api.ErrConfig},
		{512, 64, 1<<58 + 8, 8, 64, api.ErrConfig},
		{512, 64, 8, 8, 1<<32 + 64, api.ErrConfig},
		{512, 64, 8, 8, 1<<61 + 64, api.ErrConfig},
		{math.MinInt, math.MinInt, -1, 1, math.MinInt, api.ErrConfig},
		{math.MaxInt, math.MaxInt, 1, 1, math.MaxInt, api.ErrConfig},
		{math.MaxInt, 1, 1, math.MaxInt, math.MaxInt, api.ErrConfig},
	} {
		g := geom.Geom{Words: r.words, RegionWords: r.regionWords, CardWords: r.cardWords, Regions: r.regions, Cards: r.cards, MaxSize: 64}
		s, e := remset.New(g)
		if e != r.e || (s != nil) != (r.e == api.OK) {
			t.Errorf("New(%+v): %v, %v", g, s != nil, e)
		}
	}
}

// mayBe says by products alone, each of 128 bits, of which geometries sets may be made.
func mayBe(g geom.Geom) bool {
	if g.Regions < 1 || g.Regions > maxRegions || g.CardWords < 1 || g.RegionWords < 1 || g.Words > maxWords || g.Words < 1 || g.Cards < 1 {
		return false
	}
	isProduct := func(words, n, of int) bool {
		high, low := bits.Mul64(uint64(n), uint64(of))
		return high == 0 && low == uint64(words)
	}
	return isProduct(g.Words, g.Regions, g.RegionWords) && isProduct(g.Words, g.Cards, g.CardWords) &&
		isProduct(g.RegionWords, g.RegionWords/g.CardWords, g.CardWords)
}

// Each five of some numbers, about the bounds and far off.
func TestNewOfEachFive(t *testing.T) {
	numbers := []int{math.MinInt, -1 << 32, -64, -2, -1, 0, 1, 2, 3, 4, 6, 8, 12, 64, 1<<16 - 1, 1 << 16, 1<<16 + 1, maxWords / 3, maxWords, maxWords + 2, 1 << 32, 1 << 62, math.MaxInt}
	made := 0
	for _, words := range numbers {
		for _, regionWords := range numbers {
			for _, cardWords := range numbers {
				for _, regions := range numbers {
					for _, cards := range numbers {
						g := geom.Geom{Words: words, RegionWords: regionWords, CardWords: cardWords, Regions: regions, Cards: cards}
						want := api.ErrConfig
						if mayBe(g) {
							want = api.OK
							made++
						}
						if s, e := remset.New(g); e != want || (s != nil) != (e == api.OK) {
							t.Fatalf("New(%+v): %v", g, e)
						}
					}
				}
			}
		}
	}
	if made < 50 {
		t.Errorf("only %d geometries were right", made)
	}
}

// Each small geometry, right and wrong ones.
func TestNewOfEachSmallGeometry(t *testing.T) {
	for words := range 14 {
		for regionWords := -1; regionWords < 14; regionWords++ {
			for cardWords := -1; cardWords < 14; cardWords++ {
				for regions := -1; regions < 14; regions++ {
					for cards := -1; cards < 14; cards++ {
						g := geom.Geom{Words: words, RegionWords: regionWords, CardWords: cardWords, Regions: regions, Cards: cards}
						s, e := remset.New(g)
						if (e == api.OK) != mayBe(g) || (s != nil) != (e == api.OK) || e != api.OK && e != api.ErrConfig {
							t.Fatalf("New(%+v): %v", g, e)
						}
					}
				}
			}
		}
	}
}

// What New doesn't ask for may be any number.
func TestNewAsksForNoMaxSize(t *testing.T) {
	for _, size := range append([]int{0, 1, 64}, far...) {
		g := laid(4, 8, 8)
		g.MaxSize = size
		s := newSets(t, g)
		if added, e := s.Add(0, 31); !added || e != api.OK {
			t.Errorf("MaxSize %d: %v, %v", size, added, e)
		}
	}
}

// New sets remember nothing, and there are just their regions and their cards.
func TestNewRemembersNothing(t *testing.T) {
	for regions := 1; regions < 12; regions++ {
		for regionCards := 1; regionCards < 12; regionCards++ {
			x := newBoth(t, regions, regionCards)
			x.wantKnown(t)
			x.refuse(t)
			x.wantKnown(t)
			x.add(t, 0, regions*regionCards-1)
			x.add(t, regions-1, 0)
			x.wantKnown(t)
		}
	}
}

// What layer 2 makes of configurations: of few regions, of the greatest, of the most.
func TestGeometriesOfConfigurations(t *testing.T) {
	for _, c := range []api.Config{
		{Shift: 6, Regions: 2, CardShift: 6}, {Shift: 6, Regions: 3, CardShift: 5}, {Shift: 6, Regions: 8, CardShift: 3}, {Shift: 20, Regions: 4, CardShift: 3}, {Shift: 6, Regions: 65536, CardShift: 3},
	} {
		c.Threads, c.Roots, c.Young = 1, 1, 1
		g, e := geom.New(c)
		if e != api.OK {
			t.Fatal(e)
		}
		for _, home := range []int{0, 1, g.Regions - 1} {
			s := newSets(t, g)
			base, _ := g.Base(home)
			for _, card := range []int{g.Card(base), g.Card(base + g.RegionWords - 1)} {
				if added, e := s.Add(home, card); added || e != api.ErrShape {
					t.Errorf("%+v: Add(%d, %d): %v, %v", g, home, card, added, e)
				}
			}
			for _, word := range []int{base - 1, base + g.RegionWords} {
				card, want := g.Card(word), api.OK
				if card == -1 {
					want = api.ErrRange
				}
				if added, e := s.Add(home, card); added != (want == api.OK) || e != want {
					t.Errorf("%+v: Add(%d, %d): %v, %v", g, home, card, added, e)
				}
				if way := s.Way(home, g.Region(word)); (way == remset.InSparse) != (want == api.OK) {
					t.Errorf("%+v: Way(%d, %d): %v", g, home, g.Region(word), way)
				}
			}
		}
	}
}

// Each call of nil sets: it is told ahead of any other fault.
func TestNilSets(t *testing.T) {
	refused, _ := remset.New(geom.Geom{})
	var null *remset.Sets
	numbers := append([]int{0, 1, 8, 63, 64}, far...)
	for _, s := range []*remset.Sets{null, refused} {
		for _, r := range numbers {
			for _, n := range numbers {
				if added, e := s.Add(r, n); added || e != api.ErrNil {
					t.Fatalf("Add(%d, %d): %v, %v", r, n, added, e)
				}
				if s.Has(r, n) || s.Way(r, n) != remset.Absent {
					t.Fatalf("Has(%d, %d), or Way", r, n)
				}
			}
			if list := s.Cards(r); len(list) != 0 {
				t.Errorf("Cards(%d): %v", r, list)
			}
			if e := s.Clear(r); e != api.ErrNil {
				t.Errorf("Clear(%d): %v", r, e)
			}
			if e := s.Scrub(r); e != api.ErrNil {
				t.Errorf("Scrub(%d): %v", r, e)
			}
		}
	}
}

// P11.2

func TestConstants(t *testing.T) {
	// Arrays' lengths are asked, so that these have to be constants.
	lengths := []int{len([remset.Sparse]int{}), len([remset.FineMost]int{}), len([remset.Absent]int{}), len([remset.InSparse]int{}), len([remset.InFine]int{}), len([remset.InCoarse]int{})}
	if !slices.Equal(lengths, []int{4, 4, 0, 1, 2, 3}) {
		t.Errorf("%v", lengths)
	}
}

// One source's cards, up to the last one and behind it: each answer is written out.
func TestCardsOfOneSource(t *testing.T) {
	s := newSets(t, laid(3, 8, 8))
	for i, r := range []struct {
		card  int
		added bool
		way   remset.Way
		cards []int
	}{
		{13, true, remset.InSparse, []int{13}},
		{13, false, remset.InSparse, []int{13}},
		{8, true, remset.InSparse, []int{8, 13}},
		{15, true, remset.InSparse, []int{8, 13, 15}},
		{8, false, remset.InSparse, []int{8, 13, 15}},
		{10, true, remset.InSparse, []int{8, 10, 13, 15}},
		{8, false, remset.InSparse, []int{8, 10, 13, 15}},
		{10, false, remset.InSparse, []int{8, 10, 13, 15}},
		{13, false, remset.InSparse, []int{8, 10, 13, 15}},
		{15, false, remset.InSparse, []int{8, 10, 13, 15}},
		{9, true, remset.InFine, []int{8, 9, 10, 13, 15}},
		{9, false, remset.InFine, []int{8, 9, 10, 13, 15}},
		{13, false, remset.InFine, []int{8, 9, 10, 13, 15}},
		{14, true, remset.InFine, []int{8, 9, 10, 13, 14, 15}},
		{12, true, remset.InFine, []int{8, 9, 10, 12, 13, 14, 15}},
		{11, true, remset.InFine, []int{8, 9, 10, 11, 12, 13, 14, 15}},
		{11, false, remset.InFine, []int{8, 9, 10, 11, 12, 13, 14, 15}},
		{8, false, remset.InFine, []int{8, 9, 10, 11, 12, 13, 14, 15}},
	} {
		added, e := s.Add(2, r.card)
		if added != r.added || e != api.OK || s.Way(2, 1) != r.way {
			t.Errorf("%d: Add(2, %d): %v, %v, Way %v", i, r.card, added, e, s.Way(2, 1))
		}
		if cards := s.Cards(2); !slices.Equal(cards, r.cards) {
			t.Errorf("%d: Cards: %v, not %v", i, cards, r.cards)
		}
	}
	if s.Way(2, 0) != remset.Absent || s.Way(2, 2) != remset.Absent || s.Way(1, 2) != remset.Absent || s.Way(0, 1) != remset.Absent {
		t.Errorf("another source is remembered")
	}
}

// eachOrder makes each order of the numbers below a bound, and of each its pieces from the first on.
func eachOrder(bound int, do func(order []int)) {
	var grow func(order []int)
	grow = func(order []int) {
		do(order)
		for n := range bound {
			if !slices.Contains(order, n) {
				grow(append(slices.Clone(order), n))
			}
		}
	}
	grow(nil)
}

// Regions of one card, of fewer than five, of five and of six: their cards in each order, and once more.
func TestEachOrderOfCards(t *testing.T) {
	for regionCards := 1; regionCards <= 6; regionCards++ {
		for _, r := range []struct{ regions, home, source int }{{2, 0, 1}, {2, 1, 0}, {3, 1, 2}} {
			eachOrder(regionCards, func(order []int) {
				x := newBoth(t, r.regions, regionCards)
				x.addMore(t, r.home, r.source, order...)
				x.wantSet(t, r.home)
				x.addMore(t, r.home, r.source, order...)
				x.wantSet(t, r.home)
				want := remset.InFine
				switch {
				case len(order) == 0:
					want = remset.Absent
				case len(order) <= 4:
					want = remset.InSparse
				}
				if way := x.s.Way(r.home, r.source); way != want {
					t.Fatalf("%v: %v", order, way)
				}
			})
		}
	}
}

// A region with fewer than five cards never becomes fine, however many there are, and however often they are added.
func TestRegionsOfFewCards(t *testing.T) {
	for regionCards := 1; regionCards <= 4; regionCards++ {
		x := newBoth(t, 12, regionCards)
		for range 3 {
			for card := range 12 * regionCards {
				for home := range 12 {
					x.add(t, home, card)
				}
			}
		}
		x.wantKnown(t)
		for home := range 12 {
			for source := range 12 {
				if way := x.s.Way(home, source); way != remset.InSparse && home != source || home == source && way != remset.Absent {
					t.Errorf("%d cards: Way(%d, %d): %v", regionCards, home, source, way)
				}
			}
		}
	}
}

// The fourth and the fifth fine source, written out: an old one has the most cards, or the new one, or several have as many.
func TestTheFifthFineSource(t *testing.T) {
	for _, r := range []struct {
		home   int
		order  []int
		counts []int
		coarse int
	}{
		{0, []int{1, 2, 3, 4, 5}, []int{5, 5, 5, 5}, 1},
		{0, []int{5, 4, 3, 2, 1}, []int{5, 5, 5, 5}, 1},
		{0, []int{2, 3, 4, 5, 1}, []int{5, 5, 5, 5}, 1},
		{0, []int{3, 2, 5, 4, 1}, []int{5, 5, 5, 5}, 1},
		{0, []int{4, 5, 1, 2, 3}, []int{5, 5, 5, 5}, 1},
		{6, []int{1, 2, 3, 4, 0}, []int{5, 5, 5, 5}, 0},
		{6, []int{2, 4, 5, 3, 1}, []int{5, 5, 5, 5}, 1},
		{0, []int{1, 2, 3, 4, 5}, []int{6, 5, 5, 5}, 1},
		{0, []int{1, 2, 3, 4, 5}, []int{5, 6, 5, 5}, 2},
		{0, []int{1, 2, 3, 4, 5}, []int{5, 5, 6, 5}, 3},
		{0, []int{1, 2, 3, 4, 5}, []int{5, 5, 5, 6}, 4},
		{0, []int{5, 2, 3, 4, 1}, []int{6, 5, 5, 5}, 5},
		{0, []int{5, 4, 3, 2, 1}, []int{6, 6, 5, 5}, 4},
		{0, []int{4, 5, 3, 2, 1}, []int{6, 6, 5, 5}, 4},
		{0, []int{1, 2, 3, 4, 5}, []int{6, 7, 8, 7}, 3},
		{0, []int{1, 2, 3, 4, 5}, []int{8, 7, 8, 8}, 1},
		{0, []int{3, 5, 2, 4, 1}, []int{7, 8, 7, 8}, 4},
		{0, []int{6, 5, 4, 3, 2}, []int{5, 6, 7, 8}, 3},
		{0, []int{6, 5, 4, 3, 2}, []int{8, 7, 6, 5}, 6},
		{3, []int{6, 0, 1, 2, 4}, []int{8, 8, 8, 8}, 0},
	} {
		x := newBoth(t, 7, 8)
		for i, count := range r.counts {
			x.addFirst(t, r.home, r.order[i], count)
		}
		for _, source := range r.order[:4] {
			if x.s.Way(r.home, source) != remset.InFine {
				t.Errorf("%+v: four are fine, but %d", r, source)
			}
		}
		x.addMore(t, r.home, r.order[4], 7, 5, 3, 1)
		if x.s.Way(r.home, r.order[4]) != remset.InSparse || len(x.m.fine(r.home)) != 4 {
			t.Errorf("%+v: the fifth is fine with its fourth card", r)
		}
		x.addMore(t, r.home, r.order[4], 6)
		for _, source := range r.order {
			want := remset.InFine
			if source == r.coarse {
				want = remset.InCoarse
			}
			if way := x.s.Way(r.home, source); way != want {
				t.Errorf("%+v: Way of %d: %v", r, source, way)
			}
		}
		x.wantKnown(t)
	}
}

// Five sources become fine in each order, the first four with each numbers of cards.
func TestEachFifthFineSource(t *testing.T) {
	eachOrder(5, func(order []int) {
		if len(order) < 5 {
			return
		}
		for counts := range 3 * 3 * 3 * 3 {
			home := (order[0] + counts) % 6
			x := newBoth(t, 6, 7)
			for i, n := range order {
				source := (home + 1 + n) % 6
				x.addFirst(t, home, source, 5)
				if i < 4 {
					x.addMore(t, home, source, []int{6, 5}[:counts%3]...)
					counts /= 3
				}
			}
			x.wantSet(t, home)
			for source := range 6 {
				x.addFirst(t, home, source, 7)
			}
			x.wantSet(t, home)
		}
	})
}

// Sources become fine behind coarse ones, till all of many are coarse or fine; what is coarse stays so.
func TestManyFineSources(t *testing.T) {
	for step := 1; step < 13; step++ {
		x := newBoth(t, 13, 9)
		home := step % 13
		for round := range 13 {
			source := round * step % 13
			x.addMore(t, home, source, 8, 0, 4, 2, 6)
			x.wantSet(t, home)
			// Now the new one has more cards than some of the fine ones, now fewer.
			x.addFirst(t, home, source, step*round%4+2)
			x.wantSet(t, home)
			if fine := len(x.m.fine(home)); fine > 4 {
				t.Fatalf("%d are fine", fine)
			}
		}
		coarse := 0
		for source := range 13 {
			if x.s.Way(home, source) == remset.InCoarse {
				coarse++
			}
		}
		if coarse != 8 {
			t.Errorf("step %d: %d are coarse", step, coarse)
		}
		x.wantKnown(t)
		x.refuse(t)
		x.wantKnown(t)
	}
}

// The sixth that becomes fine behind a coarse one, written out: coarse ones don't count among the fine ones, and don't become fine again.
func TestTheSixthFineSource(t *testing.T) {
	s := newSets(t, laid(8, 8, 8))
	add := func(source, from, to int) {
		t.Helper()
		for n := from; n < to; n++ {
			if added, e := s.Add(0, 8*source+n); !added || e != api.OK {
				t.Fatalf("Add(0, %d): %v, %v", 8*source+n, added, e)
			}
		}
	}
	want := func(ways ...remset.Way) {
		t.Helper()
		for source, way := range ways {
			if s.Way(0, source) != way {
				t.Errorf("Way(0, %d): %v, not %v", source, s.Way(0, source), way)
			}
		}
	}
	const a, p, f, c = remset.Absent, remset.InSparse, remset.InFine, remset.InCoarse
	add(1, 0, 6)
	add(2, 0, 7)
	add(3, 0, 5)
	add(4, 0, 5)
	want(a, f, f, f, f, a, a, a)
	add(5, 0, 5)
	want(a, f, c, f, f, f, a, a)
	if added, e := s.Add(0, 16); added || e != api.OK {
		t.Errorf("a card of a coarse source that was added: %v, %v", added, e)
	}
	if added, e := s.Add(0, 23); added || e != api.OK {
		t.Errorf("a card of a coarse source that wasn't added: %v, %v", added, e)
	}
	want(a, f, c, f, f, f, a, a)
	add(6, 0, 4)
	want(a, f, c, f, f, f, p, a)
	add(6, 4, 5)
	want(a, c, c, f, f, f, f, a)
	add(7, 0, 5)
	want(a, c, c, c, f, f, f, f)
	if n := len(s.Cards(0)); n != 3*8+4*5 {
		t.Errorf("%d cards", n)
	}
}

// The edges of homes and cards, each with its answer written out.
func TestAddAtTheEdges(t *testing.T) {
	for _, r := range []struct {
		home, card int
		e          api.Errno
	}{
		{-1, 8, api.ErrRange}, {0, 8, api.OK}, {3, 8, api.OK}, {4, 8, api.ErrRange}, {5, 8, api.ErrRange},
		{0, -1, api.ErrRange}, {1, -1, api.ErrRange}, {1, 0, api.OK}, {0, 31, api.OK}, {0, 32, api.ErrRange}, {3, 32, api.ErrRange}, {0, 33, api.ErrRange},
		// Of the home itself.
		{0, 0, api.ErrShape}, {0, 7, api.ErrShape}, {1, 7, api.OK}, {1, 8, api.ErrShape}, {1, 15, api.ErrShape}, {1, 16, api.OK},
		{3, 23, api.OK}, {3, 24, api.ErrShape}, {3, 31, api.ErrShape}, {2, 16, api.ErrShape}, {2, 15, api.OK}, {2, 24, api.OK},
		// Neither is there.
		{-1, -1, api.ErrRange}, {4, 32, api.ErrRange}, {-1, 32, api.ErrRange}, {4, -1, api.ErrRange}, {4, 39, api.ErrRange}, {-1, -8, api.ErrRange},
		// A region below 0 or behind the last would have such a card: there is none, rather than one of the home.
		{0, -7, api.ErrRange}, {0, -8, api.ErrRange}, {3, 39, api.ErrRange},
		// In the lowest bits these are a home, or a card.
		{1 << 32, 8, api.ErrRange}, {-1 << 32, 8, api.ErrRange}, {1 << 8, 8, api.ErrRange}, {1 << 16, 8, api.ErrRange}, {0, 1<<32 + 8, api.ErrRange}, {0, 8 - 1<<32, api.ErrRange}, {0, 1<<61 + 8, api.ErrRange},
		{math.MinInt, 8, api.ErrRange}, {math.MaxInt, 8, api.ErrRange}, {0, math.MinInt, api.ErrRange}, {0, math.MaxInt, api.ErrRange}, {math.MinInt, math.MinInt, api.ErrRange}, {math.MaxInt, math.MaxInt, api.ErrRange},
		{0, math.MinInt + 8, api.ErrRange}, {math.MinInt + 1, 8, api.ErrRange},
	} {
		s := newSets(t, laid(4, 8, 8))
		added, e := s.Add(r.home, r.card)
		if added != (r.e == api.OK) || e != r.e || s.Has(r.home, r.card) != added {
			t.Errorf("Add(%d, %d): %v, %v", r.home, r.card, added, e)
		}
		count := 0
		for home := range 4 {
			count += len(s.Cards(home))
		}
		if added && count != 1 || !added && count != 0 {
			t.Errorf("Add(%d, %d): %d cards are remembered", r.home, r.card, count)
		}
	}
}

// inEachWay remembers, for a home of 8 regions of 8 cards, two coarse sources, four fine ones and a sparse one: all others.
func inEachWay(t *testing.T, home int) both {
	t.Helper()
	x := newBoth(t, 8, 8)
	for n := range 6 {
		x.addMore(t, home, (home+1+n)%8, 7, 6, 1, 3, 2)
	}
	x.addMore(t, home, (home+7)%8, 5, 0, 7)
	met := [4]int{}
	for source := range 8 {
		met[x.s.Way(home, source)]++
	}
	if met != [4]int{1, 1, 4, 2} {
		t.Fatalf("the ways are %v", met)
	}
	return x
}

// Calls that answer an error change nothing, whatever is remembered; nor is there anything of what there isn't.
func TestRefusedCallsChangeNothing(t *testing.T) {
	for home := range 8 {
		x := inEachWay(t, home)
		x.refuse(t)
		x.wantKnown(t)
		x.addFirst(t, (home+1)%8, home, 4)
		x.refuse(t)
		x.wantKnown(t)
		x.clear(t, home)
		x.refuse(t)
		x.wantKnown(t)
	}
}

// Each card of a source in each way, added and not.
func TestHasOfEachWay(t *testing.T) {
	s := newSets(t, laid(8, 8, 8))
	for source := 1; source < 6; source++ {
		for _, n := range []int{7, 0, 3, 4, 6} {
			s.Add(0, 8*source+n)
		}
	}
	s.Add(0, 50)
	s.Add(0, 48)
	for card := range 64 {
		n := card % 8
		added := n == 7 || n == 0 || n == 3 || n == 4 || n == 6
		// Source 1 is coarse, 2 to 5 are fine, 6 is sparse, 0 is the home, 7 absent.
		want := [8]bool{false, true, added, added, added, added, n == 0 || n == 2, false}[card/8]
		if s.Has(0, card) != want {
			t.Errorf("Has(0, %d): %v", card, !want)
		}
		for home := 1; home < 8; home++ {
			if s.Has(home, card) {
				t.Errorf("Has(%d, %d)", home, card)
			}
		}
	}
}

// The first and the last region as a coarse source: what lies just ahead of it and behind it is no card.
func TestHasAboutCoarseSources(t *testing.T) {
	for _, r := range []struct{ home, source int }{{5, 0}, {0, 5}, {1, 0}, {4, 5}} {
		x := newBoth(t, 6, 8)
		x.addFirst(t, r.home, r.source, 6)
		for source := range 6 {
			x.addFirst(t, r.home, source, 5)
		}
		if way := x.s.Way(r.home, r.source); way != remset.InCoarse {
			t.Errorf("Way(%d, %d): %v", r.home, r.source, way)
		}
		x.refuse(t)
		x.wantKnown(t)
	}
}

// Cards of a home that remembers nothing, and of no region.
func TestCardsOfNothing(t *testing.T) {
	x := inEachWay(t, 3)
	for home := -3; home < 12; home++ {
		if list := x.s.Cards(home); (len(list) > 0) != (home == 3) {
			t.Errorf("Cards(%d): %v", home, list)
		}
	}
	for _, home := range none(8) {
		if list := x.s.Cards(home); len(list) != 0 {
			t.Errorf("Cards(%d): %v", home, list)
		}
	}
}

// Cards rise whatever the order of the adds, of sources and of cards.
func TestCardsRise(t *testing.T) {
	for step := 1; step < 97; step++ {
		x := newBoth(t, 13, 8)
		for n := range 97 {
			x.add(t, 5, n*step%97)
			x.add(t, 6, (96-n)*step%97)
			if n%8 == 0 {
				x.wantSet(t, 5)
				x.wantSet(t, 6)
			}
		}
		x.wantKnown(t)
		// All but those of the home itself.
		if list := x.s.Cards(5); len(list) != 97-8 {
			t.Fatalf("step %d: %d cards", step, len(list))
		}
	}
}

// Lists that are given are the caller's: what is done to them isn't done to the sets, nor the other way round; that holds of their spare room, too.
func TestCardsAreNewMemory(t *testing.T) {
	for _, count := range []int{1, 2, 3, 4, 5, 8} {
		for sources := 1; sources < 7; sources++ {
			x := newBoth(t, 7, 8)
			for source := range sources {
				x.addFirst(t, 6, source, count)
			}
			one, other := x.s.Cards(6), x.s.Cards(6)
			was := slices.Clone(other)
			spare := one[:cap(one)]
			for i := range spare {
				spare[i] = -5
			}
			x.wantKnown(t)
			if !slices.Equal(other, was) {
				t.Fatalf("%v was given, and is %v now", was, other)
			}
			x.addFirst(t, 6, sources-1, 8)
			x.wantKnown(t)
			x.scrub(t, 0)
			x.clear(t, 6)
			x.addMore(t, 6, 5, 7, 6, 5, 4)
			x.wantKnown(t)
			if !slices.Equal(other, was) {
				t.Fatalf("%v was given, and is %v now", was, other)
			}
		}
	}
}

// P11.3

// Each two numbers of regions and of none.
func TestWayOfEachTwo(t *testing.T) {
	for home := range 8 {
		x := inEachWay(t, home)
		for one := -2; one < 11; one++ {
			for other := -2; other < 11; other++ {
				want := remset.Absent
				if one == home && other >= 0 && other < 8 {
					want = x.m.ways[one][other]
				}
				if way := x.s.Way(one, other); way != want {
					t.Errorf("Way(%d, %d): %v, not %v", one, other, way, want)
				}
			}
		}
		if x.s.Way(home, home) != remset.Absent {
			t.Errorf("Way(%d, %d): %v", home, home, x.s.Way(home, home))
		}
	}
}

// The edges of Clear and Scrub, each with its answer written out.
func TestClearAndScrubAtTheEdges(t *testing.T) {
	for _, r := range []struct {
		region int
		e      api.Errno
	}{
		{-1, api.ErrRange}, {0, api.OK}, {1, api.OK}, {7, api.OK}, {8, api.ErrRange}, {9, api.ErrRange}, {63, api.ErrRange}, {64, api.ErrRange}, {-8, api.ErrRange},
		{256, api.ErrRange}, {1 << 16, api.ErrRange}, {1 << 32, api.ErrRange}, {-1 << 32, api.ErrRange}, {1<<32 + 7, api.ErrRange}, {math.MinInt, api.ErrRange}, {math.MinInt + 1, api.ErrRange}, {math.MaxInt, api.ErrRange},
	} {
		for home := range 8 {
			x := inEachWay(t, home)
			if e := x.s.Clear(r.region); e != r.e {
				t.Errorf("Clear(%d): %v", r.region, e)
			}
			if e := x.s.Scrub(r.region); e != r.e {
				t.Errorf("Scrub(%d): %v", r.region, e)
			}
			x.m.clear(r.region)
			x.m.scrub(r.region)
			x.wantKnown(t)
		}
	}
}

// ofThreeHomes is inEachWay of one home, and a few sources of two others.
func ofThreeHomes(t *testing.T) both {
	t.Helper()
	x := inEachWay(t, 0)
	for n, source := range []int{7, 5, 2, 4, 6, 0} {
		x.addFirst(t, 3, source, 5+n%3)
	}
	x.addFirst(t, 5, 1, 4)
	x.addFirst(t, 5, 6, 8)
	x.addFirst(t, 5, 0, 1)
	return x
}

// Clear of each region leaves other homes' sets, also what they remember of it; adds behind it begin anew.
func TestClearOfEachHome(t *testing.T) {
	for region := range 8 {
		x := ofThreeHomes(t)
		for range 2 {
			x.clear(t, region)
			x.wantKnown(t)
			if list := x.s.Cards(region); len(list) != 0 {
				t.Errorf("Cards(%d): %v", region, list)
			}
		}
		// Each card is new again, each source sparse again, and four may be fine again.
		for source := range 8 {
			for n := range 8 {
				x.addMore(t, region, source, n)
				x.wantSet(t, region)
			}
		}
		x.wantKnown(t)
	}
}

// Scrub of each region leaves other sources, also its own set; adds behind it begin anew.
func TestScrubOfEachSource(t *testing.T) {
	for region := range 8 {
		x := ofThreeHomes(t)
		for range 2 {
			x.scrub(t, region)
			x.wantKnown(t)
			for home := range 8 {
				if x.s.Way(home, region) != remset.Absent {
					t.Errorf("Way(%d, %d): %v", home, region, x.s.Way(home, region))
				}
			}
		}
		for n := range 8 {
			for home := range 8 {
				x.addMore(t, home, region, n)
				x.wantSet(t, home)
			}
		}
		x.wantKnown(t)
	}
}

// A fine source that is scrubbed makes room for another one, a coarse or sparse one doesn't; written out.
func TestScrubMakesRoomAmongFineSources(t *testing.T) {
	for _, r := range []struct {
		source int
		way    remset.Way
		coarse []int
	}{
		{1, remset.InCoarse, []int{2}}, {2, remset.InFine, nil}, {4, remset.InFine, nil}, {5, remset.InFine, nil}, {6, remset.InSparse, []int{2}}, {7, remset.Absent, []int{2}}, {0, remset.Absent, []int{2}},
	} {
		x := newBoth(t, 9, 8)
		for source := 1; source < 6; source++ {
			x.addFirst(t, 0, source, 5)
		}
		x.addFirst(t, 0, 6, 4)
		if way := x.s.Way(0, r.source); way != r.way {
			t.Errorf("Way(0, %d): %v", r.source, way)
		}
		x.scrub(t, r.source)
		x.addFirst(t, 0, 8, 5)
		var coarse []int
		for source := range 9 {
			if x.s.Way(0, source) == remset.InCoarse && source != 1 {
				coarse = append(coarse, source)
			}
		}
		if !slices.Equal(coarse, r.coarse) {
			t.Errorf("Scrub(%d): %v are coarse", r.source, coarse)
		}
		x.wantKnown(t)
	}
}

// Sets that were cleared and scrubbed again and again are as new ones.
func TestRoundsOfClearAndScrub(t *testing.T) {
	x := newBoth(t, 7, 6)
	for round := range 60 {
		for n := range 42 {
			x.add(t, round%7, n*(round%5+1)%42)
			x.add(t, round*3%7, n*(round%5+1)%42)
		}
		x.wantKnown(t)
		switch {
		case round%3 == 0:
			x.clear(t, round%7)
			x.clear(t, round*3%7)
		case round%3 == 1:
			for source := range 7 {
				x.scrub(t, (source+round)%7)
			}
		default:
			x.scrub(t, round%7)
			x.clear(t, round*5%7)
		}
		x.wantKnown(t)
	}
}

// Two sets of one geometry have nothing to do with one another.
func TestTwoSets(t *testing.T) {
	one, other := newBoth(t, 7, 8), newBoth(t, 7, 8)
	for n := range 300 {
		one.add(t, n%7, n*5%56)
		one.wantKnown(t)
		other.wantKnown(t)
		other.add(t, n%3, n*11%56)
		one.wantKnown(t)
		other.wantKnown(t)
		switch n % 50 {
		case 20:
			one.clear(t, n%7)
		case 30:
			other.scrub(t, n%7)
		case 40:
			one.scrub(t, n%5)
		case 45:
			other.clear(t, n%3)
		}
		one.wantKnown(t)
		other.wantKnown(t)
	}
}

// P11.4

// act makes one of some calls about a home and some sources: sources become fine, or have a card more, or are forgotten.
func (x both) act(t *testing.T, call, count int) {
	t.Helper()
	switch {
	case call < 6:
		x.addFirst(t, 6, call, count)
	case call == 6:
		x.scrub(t, 1)
	case call == 7:
		x.clear(t, 6)
	case call == 8:
		x.addMore(t, 6, 3, 6)
		x.addMore(t, 6, 0, 5, 6)
	default:
		x.addFirst(t, 1, 6, 3)
		x.scrub(t, 6)
		x.scrub(t, 4)
	}
}

// Each row of four calls in which up to six sources become fine, and are forgotten again, is made.
func TestEachRowOfCalls(t *testing.T) {
	const calls = 10
	for row := range calls * calls * calls * calls {
		for lowest := range 3 {
			x := newBoth(t, 7, 7)
			// Four sources are fine ahead of each row, so that it's at once about the fifth.
			for source := range 4 {
				x.addFirst(t, 6, lowest+source, 5)
			}
			for n, rest := 0, row; n < 4; n, rest = n+1, rest/calls {
				x.act(t, rest%calls, 5+n%2)
			}
			x.wantSet(t, 6)
			x.wantSet(t, 1)
		}
	}
}

// numbers gives numbers from all over by a rule that is always the same.
type numbers uint64

func (n *numbers) below(bound int) int {
	*n = *n*6364136223846793005 + 1442695040888963407
	return int(uint64(*n) >> 33 % uint64(bound))
}

// All calls, one behind the other by a rule: what was told ahead is all that an answer hangs on.
func TestManyCalls(t *testing.T) {
	rule := numbers(11)
	for _, r := range []struct{ regions, regionCards int }{{1, 1}, {1, 8}, {2, 1}, {2, 4}, {2, 5}, {2, 64}, {3, 5}, {5, 6}, {6, 5}, {6, 13}, {7, 8}, {8, 5}, {9, 4}, {12, 64}, {20, 7}, {30, 1}, {40, 6}} {
		for _, forgets := range []int{7, 40, 300} {
			x := newBoth(t, r.regions, r.regionCards)
			// Of few homes much is remembered, of the others little.
			homes := 1 + rule.below(r.regions)
			for range 900 {
				home, source := rule.below(rule.below(homes)+1), rule.below(r.regions)
				switch {
				case rule.below(forgets) > 0:
					x.addMore(t, home, source, rule.below(r.regionCards))
				case rule.below(2) == 0:
					x.clear(t, home)
				default:
					x.scrub(t, source)
				}
				x.wantSet(t, home)
				if rule.below(60) == 0 {
					x.wantKnown(t)
				}
			}
			x.wantKnown(t)
		}
	}
}

// Of many regions each remembers many others; then they are forgotten, half by their homes, half as sources.
func TestManyHomes(t *testing.T) {
	const regions = 300
	s := newSets(t, laid(regions, 8, 8))
	add := func(home, card int) {
		if added, e := s.Add(home, card); !added || e != api.OK {
			t.Fatalf("Add(%d, %d): %v, %v", home, card, added, e)
		}
	}
	for home := range regions {
		for n := 1; n < regions; n++ {
			add(home, (home+n*7)%regions*8+n%8)
		}
	}
	for home := range regions {
		list := s.Cards(home)
		if len(list) != regions-1 || !slices.IsSorted(list) {
			t.Fatalf("home %d: %v", home, list)
		}
	}
	for r := 0; r < regions; r += 2 {
		if s.Clear(r) != api.OK || s.Scrub(r+1) != api.OK {
			t.Fatalf("Clear(%d), Scrub(%d)", r, r+1)
		}
	}
	for home := range regions {
		// Of the even ones nothing is left, of the odd ones the even sources.
		if n := len(s.Cards(home)); n != home%2*regions/2 {
			t.Fatalf("home %d: %d cards", home, n)
		}
		for source := range regions {
			want := remset.Absent
			if home%2 == 1 && source%2 == 0 {
				want = remset.InSparse
			}
			if s.Way(home, source) != want {
				t.Fatalf("Way(%d, %d): %v", home, source, s.Way(home, source))
			}
		}
	}
}

// The most regions, of one card each: one home that remembers all others, and one source that all others remember.
func TestTheMostRegions(t *testing.T) {
	s := newSets(t, laid(maxRegions, 1, 64))
	for r := maxRegions - 1; r > 0; r-- {
		if added, e := s.Add(0, r); !added || e != api.OK {
			t.Fatalf("Add(0, %d): %v, %v", r, added, e)
		}
		if added, e := s.Add(r, 0); !added || e != api.OK {
			t.Fatalf("Add(%d, 0): %v, %v", r, added, e)
		}
	}
	list := s.Cards(0)
	if len(list) != maxRegions-1 {
		t.Fatalf("%d cards", len(list))
	}
	for i, card := range list {
		if card != i+1 || !s.Has(0, card) || !s.Has(card, 0) || s.Way(0, card) != remset.InSparse || s.Way(card, 0) != remset.InSparse {
			t.Fatalf("%d is listed at %d", card, i)
		}
	}
	for r := range maxRegions {
		if r%3 == 0 {
			continue
		}
		if s.Clear(r) != api.OK || s.Scrub(r) != api.OK || s.Has(0, r) || s.Has(r, 0) {
			t.Fatalf("region %d is still remembered", r)
		}
	}
	if n := len(s.Cards(0)); n != maxRegions/3 {
		t.Errorf("%d cards", n)
	}
	if s.Scrub(0) != api.OK || s.Has(3, 0) || s.Clear(0) != api.OK || len(s.Cards(0)) != 0 {
		t.Error("Scrub(0), Clear(0)")
	}
}

// A home and a source that had much are as quick as others when it is forgotten: else this takes minutes.
func TestNothingIsSlowBehindMuch(t *testing.T) {
	s := newSets(t, laid(maxRegions, 1, 64))
	for r := 1; r < maxRegions; r++ {
		s.Add(0, r)
		s.Add(r, 0)
	}
	for r := 1; r < maxRegions; r++ {
		s.Scrub(r)
		s.Clear(r)
	}
	for n := range maxRegions {
		if len(s.Cards(0)) != 0 || s.Clear(0) != api.OK || s.Scrub(0) != api.OK {
			t.Fatalf("round %d", n)
		}
	}
}

// addSix adds a source's first cards, of six.
func addSix(t *testing.T, s *remset.Sets, home, source, count int, want bool) {
	t.Helper()
	for card := 6 * source; card < 6*source+count; card++ {
		if added, e := s.Add(home, card); added != want || e != api.OK {
			t.Fatalf("Add(%d, %d): %v, %v", home, card, added, e)
		}
	}
}

// wantFineBut asks that of a home's sources one is coarse, the others fine.
func wantFineBut(t *testing.T, s *remset.Sets, home, coarse int, sources []int) {
	t.Helper()
	for _, source := range sources {
		want := remset.InFine
		if source == coarse {
			want = remset.InCoarse
		}
		if way := s.Way(home, source); way != want {
			t.Fatalf("home %d, sources %v: Way of %d: %v, not %v", home, sources, source, way, want)
		}
	}
}

// Homes and sources all over the most regions, also where the sources go on from the first region: of five that become fine the one with a sixth card becomes coarse, else the lowest one.
func TestFineSourcesOfTheMostRegions(t *testing.T) {
	s := newSets(t, laid(maxRegions, 6, 1))
	for home := 0; home < maxRegions; home += 253 {
		var order []int
		for n := 1; n <= 5; n++ {
			order = append(order, (home+n*(home%4+1))%maxRegions)
		}
		if home%2 == 0 {
			slices.Reverse(order)
		}
		coarse := slices.Min(order)
		for n, source := range order {
			addSix(t, s, home, source, 5, true)
			if n == home%5 && n < 4 {
				addSix(t, s, home, source, 5, false)
				s.Add(home, 6*source+5)
				coarse = source
			}
		}
		wantFineBut(t, s, home, coarse, order)
		addSix(t, s, home, coarse, 6, false)
		if list := s.Cards(home); len(list) != 6+4*5 || !slices.IsSorted(list) {
			t.Fatalf("Cards(%d): %v", home, list)
		}
		// A fine one that is scrubbed makes room for another one: none becomes coarse.
		sources := slices.DeleteFunc(slices.Clone(order), func(source int) bool { return source == coarse })
		s.Scrub(sources[1])
		sources[1] = (home + maxRegions/2) % maxRegions
		addSix(t, s, home, sources[1], 5, true)
		wantFineBut(t, s, home, coarse, append(sources, coarse))
		if e := s.Clear(home); e != api.OK || len(s.Cards(home)) != 0 {
			t.Fatalf("Clear(%d): %v", home, e)
		}
	}
}

// A source's four sparse cards, near and far from one another, in each order.
func TestFarSparseCards(t *testing.T) {
	for _, numbers := range [][]int{{0, 127, 128, 255}, {32767, 32768, 65535, 65536}, {1, 98303, 98304, 1<<20 + 5}, {0, 1<<20 - 1, 1 << 20, 1<<21 - 1}} {
		for source := range 2 {
			eachOrder(4, func(order []int) {
				s := newSets(t, laid(2, maxWords/2, 1))
				var want []int
				for _, n := range order {
					card := source*maxWords/2 + numbers[n]
					want = append(want, card)
					if added, e := s.Add(1-source, card); !added || e != api.OK {
						t.Fatalf("Add(%d, %d): %v, %v", 1-source, card, added, e)
					}
				}
				slices.Sort(want)
				if list := s.Cards(1 - source); !slices.Equal(list, want) {
					t.Fatalf("Cards: %v, not %v", list, want)
				}
			})
		}
	}
}

// The most cards of a region, as sparse, fine and coarse ones.
func TestTheMostCards(t *testing.T) {
	const regionCards = maxWords / 8
	s := newSets(t, laid(8, regionCards, 1))
	for source := 1; source < 6; source++ {
		for _, n := range []int{regionCards - 1, 0, regionCards / 2, 63, 64} {
			if added, e := s.Add(0, source*regionCards+n); !added || e != api.OK {
				t.Fatalf("Add: %v, %v", added, e)
			}
		}
	}
	if added, e := s.Add(0, maxWords-1); !added || e != api.OK {
		t.Fatalf("Add: %v, %v", added, e)
	}
	if added, e := s.Add(0, maxWords); added || e != api.ErrRange {
		t.Fatalf("Add: %v, %v", added, e)
	}
	list := s.Cards(0)
	if len(list) != regionCards+4*5+1 || !slices.IsSorted(list) {
		t.Fatalf("%d cards", len(list))
	}
	for n := range regionCards {
		if list[n] != regionCards+n || !s.Has(0, regionCards+n) {
			t.Fatalf("%d is listed at %d", list[n], n)
		}
	}
	want := []int{0, 63, 64, regionCards / 2, regionCards - 1}
	for i, card := range list[regionCards : len(list)-1] {
		if card != (2+i/5)*regionCards+want[i%5] || !s.Has(0, card) || s.Has(0, card^1) {
			t.Errorf("%d is listed at %d", card, i)
		}
	}
}

// The greatest two regions: all cards of the one are added to the other.
func TestAllCardsOfARegion(t *testing.T) {
	const regionCards = maxWords / 2
	s := newSets(t, laid(2, regionCards, 1))
	for n := range regionCards {
		// Odd ones rise, even ones fall.
		if n%2 == 0 {
			n = regionCards - 2 - n
		}
		if added, e := s.Add(1, n); !added || e != api.OK {
			t.Fatalf("Add(1, %d): %v, %v", n, added, e)
		}
	}
	list := s.Cards(1)
	if len(list) != regionCards || s.Way(1, 0) != remset.InFine {
		t.Fatalf("%d cards, Way %v", len(list), s.Way(1, 0))
	}
	for i, card := range list {
		if card != i {
			t.Fatalf("%d is listed at %d", card, i)
		}
	}
	if added, e := s.Add(1, regionCards); added || e != api.ErrShape {
		t.Errorf("Add: %v, %v", added, e)
	}
}

// One region has no other: there is nothing to remember.
func TestOneRegion(t *testing.T) {
	for _, regionCards := range []int{1, 2, 5, 8, 64, 1000} {
		x := newBoth(t, 1, regionCards)
		x.addFirst(t, 0, 0, regionCards)
		x.refuse(t)
		x.clear(t, 0)
		x.scrub(t, 0)
		x.wantKnown(t)
	}
}

// The chapter's examples.
func TestExamples(t *testing.T) {
	s := newSets(t, laid(8, 8, 8))
	for card := 8; card < 13; card++ {
		if added, e := s.Add(0, card); !added || e != api.OK {
			t.Errorf("Add(0, %d): %v, %v", card, added, e)
		}
		want := remset.InSparse
		if card == 12 {
			want = remset.InFine
		}
		if way := s.Way(0, 1); way != want {
			t.Errorf("Way behind %d: %v", card, way)
		}
	}
	if list := s.Cards(0); !slices.Equal(list, []int{8, 9, 10, 11, 12}) {
		t.Errorf("Cards: %v", list)
	}
	for source := 2; source < 6; source++ {
		for n := range 5 {
			s.Add(0, 8*source+n)
		}
	}
	if s.Way(0, 1) != remset.InCoarse || !slices.Equal(s.Cards(0)[:9], []int{8, 9, 10, 11, 12, 13, 14, 15, 16}) {
		t.Errorf("Way %v, Cards %v", s.Way(0, 1), s.Cards(0))
	}
	if e := s.Scrub(1); e != api.OK || s.Cards(0)[0] != 16 {
		t.Errorf("Scrub: %v, Cards %v", e, s.Cards(0))
	}
	if added, e := s.Add(0, 3); added || e != api.ErrShape {
		t.Errorf("Add(0, 3): %v, %v", added, e)
	}
}
