package geom_test

import (
	"math"
	"testing"

	"gleaner/api"
	"gleaner/geom"
)

// small is the chapter's example.
func small() api.Config {
	return api.Config{Shift: 6, Regions: 4, CardShift: 3, Threads: 1, Roots: 4, Young: 1}
}

// least has each number at its lowest bound.
func least() api.Config {
	return api.Config{Shift: 6, Regions: 2, CardShift: 3, Threads: 1, Roots: 1, Young: 1}
}

// most has each number at its highest bound, with regions of 64 words.
func most() api.Config {
	return api.Config{
		Shift: 6, Regions: 65536, CardShift: 6, Threads: 64, Roots: 64, Refiners: 8, Markers: 8, Young: 65536,
		Tenure: 7, Queue: 65536, Stack: 65536, Budget: 4194304, Percent: 100, Fail: 65536,
	}
}

func laid(shift, regions, cardShift int) api.Config {
	c := small()
	c.Shift, c.Regions, c.CardShift = shift, regions, cardShift
	return c
}

func wantGeom(t *testing.T, c api.Config) geom.Geom {
	t.Helper()
	g, e := geom.New(c)
	if e != api.OK {
		t.Fatalf("New(%+v): %v", c, e)
	}
	return g
}

func wantRefused(t *testing.T, c api.Config) {
	t.Helper()
	if g, e := geom.New(c); g != (geom.Geom{}) || e != api.ErrConfig {
		t.Errorf("New(%+v): %+v, %v", c, g, e)
	}
}

// geoms are of small and great regions and cards, few and many, up to the most words.
func geoms(t *testing.T) []geom.Geom {
	t.Helper()
	var all []geom.Geom
	for _, r := range [][3]int{
		{6, 4, 3}, {6, 2, 3}, {6, 3, 6}, {6, 7, 4}, {6, 65536, 3}, {6, 65536, 6}, {7, 5, 5},
		{10, 6, 3}, {10, 4096, 9}, {19, 3, 19}, {19, 8, 10}, {20, 2, 3}, {20, 4, 20},
	} {
		all = append(all, wantGeom(t, laid(r[0], r[1], r[2])))
	}
	return all
}

// far are numbers of no word, region or card.
var far = []int{math.MinInt, math.MinInt + 1, -1 << 32, -65, -64, -1, 1 << 23, 1 << 32, 1 << 62, math.MaxInt - 63, math.MaxInt - 1, math.MaxInt}

// P2.1

func TestNewLaysWords(t *testing.T) {
	for shift := 6; shift <= 20; shift++ {
		regionWords := 1
		for range shift {
			regionWords *= 2
		}
		for _, regions := range []int{2, 3, 4194304/regionWords - 1, 4194304 / regionWords} {
			if regions < 2 {
				continue
			}
			cardWords := 8
			for cardShift := 3; cardShift <= shift; cardShift++ {
				g := wantGeom(t, laid(shift, regions, cardShift))
				want := geom.Geom{
					Words: regions * regionWords, RegionWords: regionWords, CardWords: cardWords, Regions: regions,
					Cards: regions * regionWords / cardWords, MaxSize: min(1048576, (regions-1)*regionWords),
				}
				if g != want {
					t.Fatalf("shift %d, regions %d, card shift %d: %+v, not %+v", shift, regions, cardShift, g, want)
				}
				cardWords *= 2
			}
		}
	}
}

// The greatest size is where either bound is the lesser one, and where both are the same.
func TestGreatestSize(t *testing.T) {
	for _, r := range []struct{ shift, regions, want int }{
		{6, 2, 64}, {6, 16384, 1048512}, {6, 16385, 1048576}, {6, 16386, 1048576}, {6, 65536, 1048576},
		{19, 2, 524288}, {19, 3, 1048576}, {19, 4, 1048576}, {20, 2, 1048576}, {20, 3, 1048576}, {20, 4, 1048576},
	} {
		if g := wantGeom(t, laid(r.shift, r.regions, 3)); g.MaxSize != r.want {
			t.Errorf("shift %d, regions %d: %d, not %d", r.shift, r.regions, g.MaxSize, r.want)
		}
	}
}

// bound is one number of a configuration, and what it may be while the others stay as they are.
type bound struct {
	name      string
	of        func(c *api.Config) *int
	low, high int
	in        api.Config
}

func bounds() []bound {
	twoRegions, all := least(), most()
	return []bound{
		// Two regions of 2^21 words would be no more than the most words: it is Shift alone that is too great.
		{"Shift", func(c *api.Config) *int { return &c.Shift }, 6, 20, twoRegions},
		{"Regions", func(c *api.Config) *int { return &c.Regions }, 2, 65536, twoRegions},
		{"CardShift", func(c *api.Config) *int { return &c.CardShift }, 3, 6, all},
		{"Threads", func(c *api.Config) *int { return &c.Threads }, 1, 64, all},
		{"Roots", func(c *api.Config) *int { return &c.Roots }, 1, 64, all},
		{"Refiners", func(c *api.Config) *int { return &c.Refiners }, 0, 8, all},
		{"Markers", func(c *api.Config) *int { return &c.Markers }, 0, 8, all},
		{"Young", func(c *api.Config) *int { return &c.Young }, 1, 65536, all},
		{"Tenure", func(c *api.Config) *int { return &c.Tenure }, 0, 7, all},
		{"Queue", func(c *api.Config) *int { return &c.Queue }, 0, 65536, all},
		{"Stack", func(c *api.Config) *int { return &c.Stack }, 0, 65536, all},
		{"Budget", func(c *api.Config) *int { return &c.Budget }, 0, 4194304, all},
		{"Percent", func(c *api.Config) *int { return &c.Percent }, 0, 100, all},
		{"Fail", func(c *api.Config) *int { return &c.Fail }, 0, 65536, all},
	}
}

func TestEachBound(t *testing.T) {
	for _, b := range bounds() {
		t.Run(b.name, func(t *testing.T) {
			c := b.in
			for _, n := range []int{b.low, b.low + 1, (b.low + b.high) / 2, b.high - 1, b.high} {
				*b.of(&c) = n
				wantGeom(t, c)
			}
			// 1 << 58 and 1 << 59 regions of 64 words wrap round to few words, or none.
			for _, n := range []int{
				b.low - 1, b.high + 1, b.low - 64, b.high + 64, math.MinInt, math.MaxInt,
				1 << 32, 1<<32 + b.high, 1 << 58, 1<<58 + 4, 1 << 59, 1 << 62, -1 << 62, math.MinInt + b.high,
			} {
				*b.of(&c) = n
				wantRefused(t, c)
			}
		})
	}
}

func TestMostWords(t *testing.T) {
	for shift := 6; shift <= 20; shift++ {
		regions := 4194304
		for range shift {
			regions /= 2
		}
		if g := wantGeom(t, laid(shift, regions, 3)); g.Words != 4194304 {
			t.Errorf("shift %d: %d words", shift, g.Words)
		}
		wantRefused(t, laid(shift, regions+1, 3))
		if shift > 6 {
			wantRefused(t, laid(shift, 2*regions, 3))
			wantRefused(t, laid(shift, 65536, 3))
		}
	}
}

func TestCardsNoGreaterThanRegions(t *testing.T) {
	for shift := 6; shift <= 20; shift++ {
		g := wantGeom(t, laid(shift, 2, shift))
		if g.CardWords != g.RegionWords || g.Cards != 2 {
			t.Errorf("shift %d: %+v", shift, g)
		}
		wantRefused(t, laid(shift, 2, shift+1))
		wantRefused(t, laid(shift, 2, 2))
	}
}

func TestNoMoreYoungThanRegions(t *testing.T) {
	for _, regions := range []int{2, 3, 4, 1000, 65535, 65536} {
		c := laid(6, regions, 3)
		c.Young = regions
		wantGeom(t, c)
		c.Young = regions + 1
		wantRefused(t, c)
	}
}

// What isn't of words, regions and cards leaves the geometry as it is.
func TestOtherNumbersLayNothing(t *testing.T) {
	want := wantGeom(t, laid(6, 65536, 6))
	if got := wantGeom(t, most()); got != want {
		t.Errorf("%+v, not %+v", got, want)
	}
	want = wantGeom(t, laid(6, 2, 3))
	if got := wantGeom(t, least()); got != want {
		t.Errorf("%+v, not %+v", got, want)
	}
}

func TestNoConfigurationAtAll(t *testing.T) {
	wantRefused(t, api.Config{})
}

// P2.2

func TestRegionAndCardOfEachWord(t *testing.T) {
	for _, g := range geoms(t) {
		region, inRegion, card, inCard := 0, 0, 0, 0
		for a := range g.Words {
			if g.Region(a) != region || g.Card(a) != card {
				t.Fatalf("%+v: word %d: %d, %d, not %d, %d", g, a, g.Region(a), g.Card(a), region, card)
			}
			if inRegion++; inRegion == g.RegionWords {
				region, inRegion = region+1, 0
			}
			if inCard++; inCard == g.CardWords {
				card, inCard = card+1, 0
			}
		}
		for _, a := range append([]int{g.Words, g.Words + 1, g.Words + g.RegionWords}, far...) {
			if g.Region(a) != -1 || g.Card(a) != -1 {
				t.Errorf("%+v: no word %d: %d, %d", g, a, g.Region(a), g.Card(a))
			}
		}
	}
}

func TestFirstWords(t *testing.T) {
	for _, g := range geoms(t) {
		for _, r := range []struct {
			name         string
			of           func(int) (int, api.Errno)
			count, words int
		}{{"Base", g.Base, g.Regions, g.RegionWords}, {"First", g.First, g.Cards, g.CardWords}} {
			for i := range r.count {
				if a, e := r.of(i); a != i*r.words || e != api.OK {
					t.Fatalf("%+v: %s(%d): %d, %v", g, r.name, i, a, e)
				}
			}
			for _, i := range append([]int{r.count, r.count + 1, 2 * r.count, 1 << 58}, far...) {
				if a, e := r.of(i); a != 0 || e != api.ErrRange {
					t.Errorf("%+v: %s(%d): %d, %v", g, r.name, i, a, e)
				}
			}
		}
	}
}

// P2.3

// crosses is the plainest telling, by division.
func crosses(g geom.Geom, a, b int) bool {
	words := a >= 0 && b >= 0 && a < g.Words && b < g.Words
	return words && a/g.RegionWords != b/g.RegionWords
}

func wantCross(t *testing.T, g geom.Geom, words []int) {
	t.Helper()
	for _, a := range words {
		for _, b := range words {
			if got, want := g.Cross(a, b), crosses(g, a, b); got != want {
				t.Fatalf("%+v: Cross(%d, %d): %v", g, a, b, got)
			}
		}
	}
}

func TestCrossOfEachTwoWords(t *testing.T) {
	g := wantGeom(t, small())
	var words []int
	for a := -g.RegionWords; a < g.Words+g.RegionWords; a++ {
		words = append(words, a)
	}
	wantCross(t, g, append(words, far...))
}

func TestCrossAtEdges(t *testing.T) {
	for _, g := range geoms(t) {
		words := append([]int{0, 1, g.CardWords - 1, g.CardWords, g.Words, g.Words + 1}, far...)
		for _, r := range []int{1, 2, g.Regions / 2, g.Regions - 1, g.Regions} {
			base := r * g.RegionWords
			words = append(words, base-g.RegionWords, base-1, base, base+1)
		}
		wantCross(t, g, words)
	}
}

func TestBig(t *testing.T) {
	for _, g := range geoms(t) {
		half := g.RegionWords / 2
		for _, r := range []struct {
			size int
			want bool
		}{
			{math.MinInt, false}, {-half - 1, false}, {-1, false}, {0, false}, {1, false}, {half - 1, false}, {half, false},
			{half + 1, true}, {g.RegionWords - 1, true}, {g.RegionWords, true}, {g.RegionWords + 1, true},
			{g.MaxSize, true}, {g.Words + 1, true}, {math.MaxInt, true},
		} {
			if got := g.Big(r.size); got != r.want {
				t.Errorf("%+v: Big(%d): %v", g, r.size, got)
			}
		}
	}
}

func TestSpanOfEachSize(t *testing.T) {
	for _, g := range geoms(t) {
		span, left := 0, 0
		for size := 1; size <= g.Words+g.RegionWords+1; size++ {
			if left == 0 {
				span, left = span+1, g.RegionWords
			}
			left--
			if got := g.Span(size); got != span {
				t.Fatalf("%+v: Span(%d): %d, not %d", g, size, got, span)
			}
		}
	}
}

func TestSpanOfFarSizes(t *testing.T) {
	for _, g := range geoms(t) {
		for _, size := range []int{0, -1, -g.RegionWords, -g.RegionWords - 1, math.MinInt, math.MinInt + 1} {
			if got := g.Span(size); got != 0 {
				t.Errorf("%+v: Span(%d): %d", g, size, got)
			}
		}
		// The greatest number is one below a power of two, so that its regions are a whole number of them.
		whole := math.MaxInt/g.RegionWords + 1
		for _, r := range [][2]int{
			{math.MaxInt, whole}, {math.MaxInt - g.RegionWords + 2, whole}, {math.MaxInt - g.RegionWords + 1, whole - 1},
		} {
			if got := g.Span(r[0]); got != r[1] {
				t.Errorf("%+v: Span(%d): %d, not %d", g, r[0], got, r[1])
			}
		}
	}
}

// P2.4

func TestEachWordLiesInItsRegionAndCard(t *testing.T) {
	for _, g := range geoms(t) {
		for a := range g.Words {
			base, e := g.Base(g.Region(a))
			if e != api.OK || a < base || a >= base+g.RegionWords {
				t.Fatalf("%+v: word %d isn't in the region from %d on: %v", g, a, base, e)
			}
			first, e := g.First(g.Card(a))
			if e != api.OK || a < first || a >= first+g.CardWords {
				t.Fatalf("%+v: word %d isn't in the card from %d on: %v", g, a, first, e)
			}
		}
	}
}

func TestEachCardLiesInOneRegion(t *testing.T) {
	for _, g := range geoms(t) {
		for card := range g.Cards {
			first, e := g.First(card)
			last := first + g.CardWords - 1
			if e != api.OK || g.Region(first) == -1 || g.Region(first) != g.Region(last) || g.Cross(first, last) {
				t.Fatalf("%+v: card %d lies in %d and %d: %v", g, card, g.Region(first), g.Region(last), e)
			}
		}
	}
}

// A geometry that New gave beside an error has no words; one that was made by hand makes no call panic.
func TestOtherGeometries(t *testing.T) {
	none, e := geom.New(api.Config{})
	if none.Region(0) != -1 || none.Card(0) != -1 || none.Cross(0, 1) || none.Span(0) != 0 {
		t.Error("there is a word", e)
	}
	for _, of := range []func(int) (int, api.Errno){none.Base, none.First} {
		if a, e := of(0); a != 0 || e != api.ErrRange {
			t.Error(a, e)
		}
	}
	for _, n := range []int{math.MinInt, -8, -1, 0, 1, 3, 1 << 62, math.MaxInt} {
		g := geom.Geom{Words: math.MaxInt, RegionWords: n, CardWords: n, Regions: math.MaxInt, Cards: math.MaxInt, MaxSize: n}
		for _, i := range append([]int{0, 1, 64}, far...) {
			g.Region(i)
			g.Card(i)
			g.Cross(i, 64)
			g.Big(i)
			g.Span(i)
			_, _ = g.Base(i)
			_, _ = g.First(i)
		}
	}
}

// The chapter's example, step by step.
func TestExample(t *testing.T) {
	g := wantGeom(t, small())
	if g != (geom.Geom{Words: 256, RegionWords: 64, CardWords: 8, Regions: 4, Cards: 32, MaxSize: 192}) {
		t.Errorf("%+v", g)
	}
	if g.Region(64) != 1 || g.Region(256) != -1 || g.Card(63) != 7 {
		t.Error(g.Region(64), g.Region(256), g.Card(63))
	}
	if a, e := g.Base(3); a != 192 || e != api.OK {
		t.Error(a, e)
	}
	if a, e := g.Base(4); a != 0 || e != api.ErrRange {
		t.Error(a, e)
	}
	if !g.Cross(63, 64) || g.Cross(64, 65) || g.Cross(0, 256) || !g.Big(33) || g.Big(32) {
		t.Error("Cross, Big")
	}
	if g.Span(65) != 2 || g.Span(64) != 1 || g.Span(0) != 0 {
		t.Error(g.Span(65), g.Span(64), g.Span(0))
	}
	wantRefused(t, laid(6, 1, 3))
	wantRefused(t, laid(6, 4, 7))
	wantRefused(t, laid(20, 5, 3))
}
