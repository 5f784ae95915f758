package region_test

import (
	"math"
	"math/big"
	"slices"
	"testing"

	"gleaner/api"
	"gleaner/geom"
	"gleaner/region"
)

// The bounds of words and regions, written out, so that the tests don't lean on what the package leans on.
const (
	maxWords   = 4194304
	maxRegions = 65536
)

// filled are the states of regions that are filled word by word.
var filled = []api.RegionState{api.Eden, api.Survivor, api.Old}

// states are all states that there are.
var states = []api.RegionState{api.Free, api.Eden, api.Survivor, api.Old, api.HumStart, api.HumCont}

// noStates are numbers that are no state; some are one in their lowest bits.
var noStates = []api.RegionState{
	-1, -2, -3, 6, 7, 8, 17, 256, 257, 258, 259, 1<<16 + 1, 1<<32 + 1, 1<<32 + 3, 1<<62 + 2,
	math.MaxInt, math.MaxInt - 1, math.MinInt, math.MinInt + 1, math.MinInt + 2, math.MinInt + 3,
}

// far are numbers of no region, size or word, at both ends of what an int can be and where sums and products wrap round.
var far = []int{
	math.MinInt, math.MinInt + 1, math.MinInt + 64, -1 << 62, -1<<58 + 1, -1 << 58, -1<<32 - 1, -1 << 32, 1 - 1<<32, -maxWords, -257, -256, -64, -2, -1,
	maxWords + 1, 2 * maxWords, 1 << 32, 1<<32 + 1, 1<<32 + 64, 1 << 57, 1<<58 - 1, 1 << 58, 1<<58 + 1, 1<<58 + 2, 1 << 62, 1<<62 + 1, 1<<62 + 64,
	math.MaxInt - 256, math.MaxInt - 64, math.MaxInt - 63, math.MaxInt - 1, math.MaxInt,
}

// around are the numbers about 0 and about a length, and the far ones.
func around(length int) []int {
	return append([]int{0, 1, length - 1, length, length + 1}, far...)
}

// laid is the geometry of so many regions of so many words.
func laid(regions, regionWords int) geom.Geom {
	return geom.Geom{Words: regions * regionWords, RegionWords: regionWords, Regions: regions}
}

// small is that of the chapter's example.
func small() geom.Geom {
	return geom.Geom{Words: 256, RegionWords: 64, CardWords: 8, Regions: 4, Cards: 32, MaxSize: 192}
}

// smallGeoms have one region and some, of one word, of powers of two and of other numbers.
func smallGeoms() []geom.Geom {
	all := []geom.Geom{small()}
	for _, regionWords := range []int{1, 2, 3, 5, 8, 12} {
		for _, regions := range []int{1, 2, 3, 6} {
			all = append(all, laid(regions, regionWords))
		}
	}
	return all
}

// greatGeoms have the most words or the most regions, or nearly so: 4194303 is 3 times 1398101.
func greatGeoms() []geom.Geom {
	return []geom.Geom{
		laid(maxRegions, 64), laid(maxRegions, 1), laid(maxRegions, 63), laid(maxRegions-1, 64), laid(1, maxWords), laid(1, maxWords-1),
		laid(2, maxWords/2), laid(4, maxWords/4), laid(3, 1398101), laid(1000, 4194),
	}
}

func newTable(t *testing.T, g geom.Geom) *region.Table {
	t.Helper()
	x, e := region.New(g)
	if x == nil || e != api.OK {
		t.Fatalf("New(%+v): %v, %v", g, x, e)
	}
	return x
}

// part is a region of a model: how many of its words are used, and how many were when it was marked.
type part struct {
	state      api.RegionState
	used, seen int
}

// model is the plainest table.
type model struct {
	regionWords int
	parts       []part
}

func newModel(g geom.Geom) *model {
	return &model{g.RegionWords, make([]part, g.Regions)}
}

func (m *model) has(r int) bool {
	return r >= 0 && r < len(m.parts)
}

func (m *model) claim(s api.RegionState) (int, api.Errno) {
	if !slices.Contains(filled, s) {
		return 0, api.ErrShape
	}
	for r := range m.parts {
		if m.parts[r].state == api.Free {
			m.parts[r] = part{state: s}
			return r, api.OK
		}
	}
	return 0, api.ErrFull
}

// fits tells whether size is above (n - 1) times a region's words and at most n times those, however great they are.
func (m *model) fits(n, size int) bool {
	words := big.NewInt(int64(m.regionWords))
	most := new(big.Int).Mul(big.NewInt(int64(n)), words)
	least := new(big.Int).Sub(most, words)
	return big.NewInt(int64(size)).Cmp(least) > 0 && big.NewInt(int64(size)).Cmp(most) <= 0
}

func (m *model) run(n, size int) (int, api.Errno) {
	if n < 1 || !m.fits(n, size) {
		return 0, api.ErrRange
	}
	for first := range m.parts {
		if len(m.parts)-first < n {
			break
		}
		taken := func(p part) bool { return p.state != api.Free }
		if slices.ContainsFunc(m.parts[first:first+n], taken) {
			continue
		}
		for i := range n {
			m.parts[first+i] = part{state: api.HumCont, used: m.regionWords}
		}
		m.parts[first].state = api.HumStart
		m.parts[first+n-1].used = size - (n-1)*m.regionWords
		return first, api.OK
	}
	return 0, api.ErrFull
}

func (m *model) bump(r, n int) (int, api.Errno) {
	if !m.has(r) || n < 1 {
		return 0, api.ErrRange
	}
	p := &m.parts[r]
	if !slices.Contains(filled, p.state) {
		return 0, api.ErrShape
	}
	if n > m.regionWords-p.used {
		return 0, api.ErrFull
	}
	p.used += n
	return r*m.regionWords + p.used - n, api.OK
}

func (m *model) setTop(r, top int) api.Errno {
	if !m.has(r) || top < r*m.regionWords || top > (r+1)*m.regionWords {
		return api.ErrRange
	}
	if !slices.Contains(filled, m.parts[r].state) {
		return api.ErrShape
	}
	m.parts[r].used = top - r*m.regionWords
	return api.OK
}

func (m *model) mark(r int) api.Errno {
	if !m.has(r) {
		return api.ErrRange
	}
	m.parts[r].seen = m.parts[r].used
	return api.OK
}

func (m *model) turn(r int, s api.RegionState) api.Errno {
	if !m.has(r) {
		return api.ErrRange
	}
	if !slices.Contains(filled, m.parts[r].state) || !slices.Contains(filled, s) {
		return api.ErrShape
	}
	m.parts[r].state = s
	return api.OK
}

func (m *model) release(r int) api.Errno {
	if !m.has(r) {
		return api.ErrRange
	}
	if m.parts[r].state == api.Free {
		return api.ErrNone
	}
	m.parts[r] = part{}
	return api.OK
}

// list goes from the last region to the first.
func (m *model) list(s api.RegionState) []int {
	var all []int
	for r := len(m.parts) - 1; r >= 0; r-- {
		if m.parts[r].state == s {
			all = slices.Insert(all, 0, r)
		}
	}
	return all
}

// both is a table, and the model that it is held against.
type both struct {
	g geom.Geom
	x *region.Table
	m *model
}

func newBoth(t *testing.T, g geom.Geom) both {
	t.Helper()
	return both{g, newTable(t, g), newModel(g)}
}

// same tells if a call was answered otherwise than by the model.
func (b both) same(t *testing.T, call string, one, other, got int, e api.Errno, want int, wantE api.Errno) {
	t.Helper()
	if got != want || e != wantE {
		t.Fatalf("%d regions of %d words: %s(%d, %d): %d, %v, not %d, %v", b.g.Regions, b.g.RegionWords, call, one, other, got, e, want, wantE)
	}
}

func (b both) claim(t *testing.T, s api.RegionState) int {
	t.Helper()
	got, e := b.x.Claim(s)
	want, wantE := b.m.claim(s)
	b.same(t, "Claim", int(s), 0, got, e, want, wantE)
	return got
}

func (b both) run(t *testing.T, n, size int) int {
	t.Helper()
	got, e := b.x.Run(n, size)
	want, wantE := b.m.run(n, size)
	b.same(t, "Run", n, size, got, e, want, wantE)
	return got
}

func (b both) bump(t *testing.T, r, n int) int {
	t.Helper()
	got, e := b.x.Bump(r, n)
	want, wantE := b.m.bump(r, n)
	b.same(t, "Bump", r, n, got, e, want, wantE)
	return got
}

func (b both) setTop(t *testing.T, r, top int) {
	t.Helper()
	b.same(t, "SetTop", r, top, 0, b.x.SetTop(r, top), 0, b.m.setTop(r, top))
}

func (b both) mark(t *testing.T, r int) {
	t.Helper()
	b.same(t, "Mark", r, 0, 0, b.x.Mark(r), 0, b.m.mark(r))
}

func (b both) turn(t *testing.T, r int, s api.RegionState) {
	t.Helper()
	b.same(t, "Turn", r, int(s), 0, b.x.Turn(r, s), 0, b.m.turn(r, s))
}

func (b both) release(t *testing.T, r int) {
	t.Helper()
	b.same(t, "Release", r, 0, 0, b.x.Release(r), 0, b.m.release(r))
}

// wantKnown asks for all that a table tells: of each region, and of each state.
func (b both) wantKnown(t *testing.T) {
	t.Helper()
	for r, p := range b.m.parts {
		first := r * b.m.regionWords
		state, top, tams := b.x.State(r), b.x.Top(r), b.x.Tams(r)
		if state != p.state || top != first+p.used || tams != first+p.seen {
			t.Fatalf("%d regions of %d words: region %d: %d, %d, %d, not %d, %d, %d", b.g.Regions, b.g.RegionWords, r, state, top, tams, p.state, first+p.used, first+p.seen)
		}
	}
	for _, r := range []int{-1, b.g.Regions, b.g.Regions + 1} {
		wantNoRegion(t, b.x, r)
	}
	for s := api.RegionState(-1); s <= 6; s++ {
		if got, want := b.x.List(s), b.m.list(s); !slices.Equal(got, want) {
			t.Fatalf("%d regions of %d words: List(%d): %v, not %v", b.g.Regions, b.g.RegionWords, s, got, want)
		}
	}
}

func wantNoRegion(t *testing.T, x *region.Table, r int) {
	t.Helper()
	if state, top, tams := x.State(r), x.Top(r), x.Tams(r); state != api.Free || top != 0 || tams != 0 {
		t.Fatalf("there is no region %d: %d, %d, %d", r, state, top, tams)
	}
}

// taken is a table of which just those regions are free whose bits are 0; the others have the states one after the other, and some words.
func taken(t *testing.T, g geom.Geom, bits int) both {
	t.Helper()
	b := newBoth(t, g)
	for r := range g.Regions {
		b.claim(t, filled[r%3])
		b.bump(t, r, 1+r%g.RegionWords)
		b.mark(t, r)
	}
	for r := range g.Regions {
		if bits>>r&1 == 0 {
			b.release(t, r)
		}
	}
	b.wantKnown(t)
	return b
}

// mixed is a table of 9 regions: of each state one that is empty, in part or wholly filled, a run of two, and two free ones.
func mixed(t *testing.T, regionWords int) both {
	t.Helper()
	b := newBoth(t, laid(9, regionWords))
	for _, s := range []api.RegionState{api.Eden, api.Survivor, api.Old, api.Old, api.Eden} {
		b.claim(t, s)
	}
	b.bump(t, 1, (regionWords+1)/2)
	b.mark(t, 1)
	b.bump(t, 2, regionWords)
	b.mark(t, 2)
	b.bump(t, 3, 1)
	b.run(t, 2, regionWords+1)
	b.mark(t, 6)
	b.release(t, 4)
	b.wantKnown(t)
	return b
}

// P7.1

func TestNewGivesFreeRegions(t *testing.T) {
	for _, g := range append(smallGeoms(), greatGeoms()...) {
		x := newTable(t, g)
		for r := range g.Regions {
			first := r * g.RegionWords
			if x.State(r) != api.Free || x.Top(r) != first || x.Tams(r) != first {
				t.Fatalf("%d regions of %d words: region %d: %d, %d, %d", g.Regions, g.RegionWords, r, x.State(r), x.Top(r), x.Tams(r))
			}
		}
		free := x.List(api.Free)
		if len(free) != g.Regions || free[0] != 0 || free[g.Regions-1] != g.Regions-1 {
			t.Fatalf("%d regions of %d words: %d are free", g.Regions, g.RegionWords, len(free))
		}
		for _, s := range states[1:] {
			if l := x.List(s); len(l) != 0 {
				t.Fatalf("%d regions of %d words: List(%d): %v", g.Regions, g.RegionWords, s, l)
			}
		}
	}
}

// What layer 2 lays is a geometry of a table; layer 2 finds the words in the regions that the table tells.
func TestNewOfConfigurations(t *testing.T) {
	for _, c := range []api.Config{
		{Shift: 6, Regions: 2, CardShift: 3}, {Shift: 6, Regions: 65536, CardShift: 6}, {Shift: 10, Regions: 3, CardShift: 7}, {Shift: 20, Regions: 4, CardShift: 20},
	} {
		c.Threads, c.Roots, c.Young = 1, 1, 1
		g, e := geom.New(c)
		if e != api.OK {
			t.Fatalf("%+v: %v", c, e)
		}
		x := newTable(t, g)
		for r := range g.Regions {
			base, _ := g.Base(r)
			if x.Top(r) != base || g.Region(x.Tams(r)) != r {
				t.Fatalf("%+v: region %d: %d, %d", g, r, x.Top(r), x.Tams(r))
			}
		}
	}
}

// The other numbers of a geometry aren't asked, and change nothing.
func TestNewAsksForNoOtherNumbers(t *testing.T) {
	for _, n := range append([]int{0, 1, 3, 64}, far...) {
		g := laid(3, 5)
		g.CardWords, g.Cards, g.MaxSize = n, n, n
		b := newBoth(t, g)
		b.claim(t, api.Old)
		b.bump(t, 0, 5)
		b.run(t, 2, 9)
		b.wantKnown(t)
	}
}

func wantRefused(t *testing.T, g geom.Geom) {
	t.Helper()
	if x, e := region.New(g); x != nil || e != api.ErrConfig {
		t.Errorf("New(%+v): %v, %v", g, x, e)
	}
}

// Each small geometry may be just if its regions, word by word, are its words.
func TestEachSmallGeometry(t *testing.T) {
	for words := -10; words <= 40; words++ {
		for regionWords := -4; regionWords <= 41; regionWords++ {
			for regions := -4; regions <= 41; regions++ {
				g := geom.Geom{Words: words, RegionWords: regionWords, Regions: regions}
				if regionWords >= 1 && regions >= 1 && regions*regionWords == words {
					newTable(t, g)
				} else {
					wantRefused(t, g)
				}
			}
		}
	}
}

func TestNewRefusesRegions(t *testing.T) {
	for _, regions := range []int{0, -1, -2, -64, -maxRegions, math.MinInt, math.MinInt + 1, maxRegions + 1, 2 * maxRegions, maxWords, 1 << 32, 1<<32 + 4, 1 << 62, math.MaxInt} {
		for _, regionWords := range []int{1, 2, 3, 64, 0, -1, -64, math.MinInt} {
			wantRefused(t, laid(regions, regionWords))
		}
	}
	for _, regions := range far {
		g := small()
		g.Regions = regions
		wantRefused(t, g)
	}
	newTable(t, laid(1, 1))
	newTable(t, laid(maxRegions, 1))
}

func TestNewRefusesRegionWords(t *testing.T) {
	for _, regions := range []int{1, 2, 3, 4, 64, maxRegions} {
		for _, regionWords := range append([]int{0}, far...) {
			wantRefused(t, laid(regions, regionWords))
			wantRefused(t, geom.Geom{Words: 256, RegionWords: regionWords, Regions: regions})
			wantRefused(t, geom.Geom{Words: 0, RegionWords: regionWords, Regions: regions})
		}
		// One word more in each region is above the most words.
		newTable(t, laid(regions, maxWords/regions))
		wantRefused(t, laid(regions, maxWords/regions+1))
	}
}

func TestNewRefusesWords(t *testing.T) {
	for _, g := range append(smallGeoms(), greatGeoms()...) {
		right := g.Words
		for _, words := range append([]int{0, right - 1, right + 1, right - g.RegionWords, right + g.RegionWords, -right, right + 1<<32, right - 1<<32, right + math.MinInt}, far...) {
			g.Words = words
			wantRefused(t, g)
		}
	}
	for _, g := range []geom.Geom{laid(2, maxWords), laid(1, maxWords+1), laid(3, maxWords/3+1), laid(65, 64528), laid(maxRegions, 65), laid(5, 1<<20)} {
		if g.Words <= maxWords {
			t.Fatalf("%+v has no more words than there may be", g)
		}
		wantRefused(t, g)
		g.Words = maxWords
		wantRefused(t, g)
	}
}

// Each of these products is right in the lowest bits alone.
func TestNewRefusesNumbersThatWrapRound(t *testing.T) {
	for _, g := range []geom.Geom{
		{Words: 0, RegionWords: 1 << 62, Regions: 4},
		{Words: 0, RegionWords: 1 << 48, Regions: maxRegions},
		{Words: 0, RegionWords: 4, Regions: 1 << 62},
		{Words: 0, RegionWords: 1 << 32, Regions: 1 << 32},
		{Words: 256, RegionWords: 1<<62 + 64, Regions: 4},
		{Words: 256, RegionWords: 1<<63 - 1<<62 + 64, Regions: 4},
		{Words: 256, RegionWords: math.MinInt + 64, Regions: 4},
		{Words: 256, RegionWords: 64, Regions: 1<<58 + 4},
		{Words: 256, RegionWords: 64, Regions: math.MinInt + 4},
		{Words: 256, RegionWords: -64, Regions: -4},
		{Words: 1, RegionWords: -1, Regions: -1},
		{Words: 1, RegionWords: math.MaxInt, Regions: math.MaxInt},
		{Words: 8, RegionWords: (1<<64 + 8) / 3, Regions: 3},
		{Words: math.MinInt, RegionWords: 1 << 62, Regions: 2},
		{Words: math.MinInt, RegionWords: 1 << 47, Regions: maxRegions},
		{Words: math.MinInt, RegionWords: math.MinInt, Regions: 1},
		{Words: math.MinInt, RegionWords: -1, Regions: math.MinInt},
		{Words: -2, RegionWords: math.MaxInt, Regions: 2},
		{Words: math.MaxInt, RegionWords: math.MaxInt, Regions: 1},
	} {
		if g.Regions*g.RegionWords != g.Words {
			t.Fatalf("%+v doesn't wrap round", g)
		}
		wantRefused(t, g)
	}
}

func TestNilTable(t *testing.T) {
	var x *region.Table
	number := func(what string, n int, e api.Errno) {
		t.Helper()
		if n != 0 || e != api.ErrNil {
			t.Errorf("%s: %d, %v", what, n, e)
		}
	}
	for _, s := range append(noStates, states...) {
		if l := x.List(s); len(l) != 0 {
			t.Errorf("List(%d): %v", s, l)
		}
		n, e := x.Claim(s)
		number("Claim", n, e)
	}
	for _, one := range around(4) {
		wantNoRegion(t, x, one)
		number("Mark", 0, x.Mark(one))
		number("Release", 0, x.Release(one))
		for _, s := range append(noStates, states...) {
			number("Turn", 0, x.Turn(one, s))
		}
		for _, other := range around(64) {
			n, e := x.Run(one, other)
			number("Run", n, e)
			n, e = x.Bump(one, other)
			number("Bump", n, e)
			number("SetTop", 0, x.SetTop(one, other))
		}
	}
}

// noRegions are numbers of no region of a geometry; some are one in their lowest bits.
func noRegions(g geom.Geom) []int {
	all := []int{g.Regions, g.Regions + 1, maxRegions, g.Words + maxRegions}
	for _, r := range []int{0, g.Regions - 1} {
		all = append(all, r+1<<32, r-1<<32, r+math.MinInt, r+1<<62, r+1<<58)
	}
	return append(all, far...)
}

// Of regions that aren't there nothing is told, and nothing is done.
func TestNoSuchRegion(t *testing.T) {
	for _, b := range []both{mixed(t, 5), mixed(t, 1), taken(t, small(), 15), taken(t, laid(1, 1), 1)} {
		for _, r := range noRegions(b.g) {
			wantNoRegion(t, b.x, r)
			for _, n := range []int{0, 1, b.g.RegionWords, -1, math.MaxInt} {
				b.bump(t, r, n)
				b.setTop(t, r, n)
				b.setTop(t, r, r*b.g.RegionWords+n)
			}
			for _, s := range append(noStates, states...) {
				b.turn(t, r, s)
			}
			b.mark(t, r)
			b.release(t, r)
		}
		b.wantKnown(t)
	}
}

// Tables of one geometry, and of others, know nothing of one another.
func TestTablesAreApart(t *testing.T) {
	g := small()
	one, other, third := newBoth(t, g), newBoth(t, g), newBoth(t, laid(3, 7))
	check := func() {
		t.Helper()
		one.wantKnown(t)
		other.wantKnown(t)
		third.wantKnown(t)
	}
	one.claim(t, api.Eden)
	one.bump(t, 0, 9)
	one.mark(t, 0)
	check()
	other.run(t, 3, 130)
	check()
	third.claim(t, api.Old)
	third.bump(t, 0, 7)
	check()
	one.release(t, 0)
	check()
	// What was handed in is the caller's own again.
	g.Words, g.RegionWords, g.Regions = 1, 1, 1
	other.claim(t, api.Survivor)
	other.bump(t, 3, 64)
	check()
}

// P7.2

// Claim takes all regions from the first to the last, whatever the states, and then none.
func TestClaimAll(t *testing.T) {
	for _, g := range smallGeoms() {
		for first := range filled {
			b := newBoth(t, g)
			for r := range g.Regions {
				if got := b.claim(t, filled[(first+r)%3]); got != r {
					t.Fatalf("%d was claimed, not %d", got, r)
				}
				b.wantKnown(t)
			}
			for _, s := range append(noStates, states...) {
				b.claim(t, s)
			}
			b.wantKnown(t)
		}
	}
}

// Whichever regions are free, the lowest one is claimed.
func TestClaimIsTheLowest(t *testing.T) {
	for _, g := range []geom.Geom{laid(6, 1), laid(6, 3), laid(5, 64)} {
		for bits := range 1 << g.Regions {
			for _, s := range filled {
				b := taken(t, g, bits)
				for range g.Regions + 1 {
					b.claim(t, s)
					b.wantKnown(t)
				}
			}
		}
	}
}

// A state that may not be claimed is told, whether a region is free or none is.
func TestClaimRefusesStates(t *testing.T) {
	for _, g := range []geom.Geom{small(), laid(1, 1)} {
		for _, b := range []both{newBoth(t, g), taken(t, g, 1<<g.Regions-1)} {
			for _, s := range append(noStates, api.Free, api.HumStart, api.HumCont) {
				if n, e := b.x.Claim(s); n != 0 || e != api.ErrShape {
					t.Errorf("Claim(%d): %d, %v", s, n, e)
				}
			}
			b.wantKnown(t)
		}
	}
}

// The most regions are claimed one by one, and the last one is found among all.
func TestClaimTheMostRegions(t *testing.T) {
	g := laid(maxRegions, 64)
	x := newTable(t, g)
	for r := range maxRegions {
		if n, e := x.Claim(api.Old); n != r || e != api.OK {
			t.Fatalf("Claim: %d, %v, not %d", n, e, r)
		}
	}
	if n, e := x.Claim(api.Old); n != 0 || e != api.ErrFull {
		t.Errorf("Claim: %d, %v", n, e)
	}
	for _, r := range []int{maxRegions - 1, maxRegions / 2, 0} {
		if n, e := x.Bump(r, 64); n != r*64 || e != api.OK {
			t.Errorf("Bump(%d, 64): %d, %v", r, n, e)
		}
		if e := x.Release(r); e != api.OK {
			t.Errorf("Release(%d): %v", r, e)
		}
		if n, e := x.Claim(api.Eden); n != r || e != api.OK || x.Top(r) != r*64 {
			t.Errorf("Claim: %d, %v, not %d; Top %d", n, e, r, x.Top(r))
		}
	}
	if l := x.List(api.Eden); !slices.Equal(l, []int{0, maxRegions / 2, maxRegions - 1}) {
		t.Errorf("List: %v", l)
	}
}

// Each n and each size, in regions that are all free, and the edges that the promise names among them.
func TestRunOfEachSize(t *testing.T) {
	for _, g := range smallGeoms() {
		for n := -2; n <= g.Regions+2; n++ {
			for size := -2; size <= g.Words+2*g.RegionWords+2; size++ {
				// The run begins behind a region that is used and another one, so that it isn't at address 0.
				for _, bits := range []int{0, 1} {
					b := taken(t, g, bits)
					b.run(t, n, size)
					b.wantKnown(t)
				}
			}
		}
	}
}

// Whichever regions are free, the lowest run that is long enough is taken; behind it the next one.
func TestRunIsTheLowest(t *testing.T) {
	for _, g := range []geom.Geom{laid(8, 1), laid(7, 3), laid(6, 64)} {
		for bits := range 1 << g.Regions {
			for n := 1; n <= g.Regions+1; n++ {
				b := taken(t, g, bits)
				for _, over := range []int{g.RegionWords - 1, 0, g.RegionWords / 2} {
					b.run(t, n, n*g.RegionWords-over)
				}
				b.wantKnown(t)
			}
		}
	}
}

// Runs lie beside runs, and beside regions that were claimed; what one of them gives back is taken anew.
func TestRunsBesideRuns(t *testing.T) {
	b := newBoth(t, laid(9, 64))
	for _, r := range []struct{ n, size, want int }{{2, 65, 0}, {1, 64, 2}, {3, 192, 3}, {1, 1, 6}, {2, 128, 7}} {
		if got := b.run(t, r.n, r.size); got != r.want {
			t.Fatalf("Run(%d, %d): %d, not %d", r.n, r.size, got, r.want)
		}
		b.wantKnown(t)
	}
	for _, r := range []struct{ release, n, size, want int }{{4, 1, 5, 4}, {0, 1, 5, 0}, {8, 1, 64, 8}} {
		b.release(t, r.release)
		b.wantKnown(t)
		b.run(t, 2, 100)
		if got := b.run(t, r.n, r.size); got != r.want {
			t.Fatalf("Run(%d, %d): %d, not %d", r.n, r.size, got, r.want)
		}
		b.wantKnown(t)
	}
	b.release(t, 1)
	b.release(t, 2)
	if got := b.claim(t, api.Survivor); got != 1 {
		t.Fatalf("Claim: %d", got)
	}
	b.release(t, 3)
	if got := b.run(t, 2, 127); got != 2 {
		t.Fatalf("Run: %d", got)
	}
	b.wantKnown(t)
}

// A size that may not be is told, though no region is free; of a size that may be, that none is.
func TestRunInFullTables(t *testing.T) {
	for _, g := range smallGeoms() {
		b := taken(t, g, 1<<g.Regions-1)
		for n := -1; n <= g.Regions+2; n++ {
			for _, d := range []int{-g.RegionWords - 1, -g.RegionWords, 1 - g.RegionWords, -1, 0, 1} {
				b.run(t, n, n*g.RegionWords+d)
			}
		}
		b.wantKnown(t)
	}
}

// Of far numbers some are a run's number and size still, of more regions than there are.
func TestRunOfFarNumbers(t *testing.T) {
	for _, g := range []geom.Geom{small(), laid(4, 1), laid(3, 7), laid(1, 1), laid(2, maxWords/2)} {
		b := newBoth(t, g)
		for _, n := range append(around(g.Regions), math.MaxInt/g.RegionWords, math.MaxInt/g.RegionWords+1, math.MinInt/g.RegionWords) {
			sizes := append(around(g.Words), n*g.RegionWords, n*g.RegionWords+1, n*g.RegionWords-1, (n-1)*g.RegionWords, (n-1)*g.RegionWords+1)
			for _, size := range sizes {
				if n >= 1 && n <= g.Regions && b.m.fits(n, size) {
					continue
				}
				b.run(t, n, size)
			}
		}
		b.wantKnown(t)
	}
	x := newTable(t, laid(4, 1))
	if n, e := x.Run(math.MaxInt, math.MaxInt); n != 0 || e != api.ErrFull {
		t.Errorf("the most regions: %d, %v", n, e)
	}
	x = newTable(t, small())
	if n, e := x.Run(1<<57, math.MaxInt); n != 0 || e != api.ErrFull {
		t.Errorf("the most words: %d, %v", n, e)
	}
	if n, e := x.Run(1<<58+1, 64); n != 0 || e != api.ErrRange {
		t.Errorf("a product that wraps round: %d, %v", n, e)
	}
}

// One run of all regions, the last of which holds one word, or all of its words.
func TestRunOfTheMostRegions(t *testing.T) {
	for _, g := range greatGeoms() {
		for _, size := range []int{g.Words - g.RegionWords + 1, g.Words} {
			x := newTable(t, g)
			if n, e := x.Run(g.Regions, size); n != 0 || e != api.OK {
				t.Fatalf("%+v: Run(%d, %d): %d, %v", g, g.Regions, size, n, e)
			}
			for r := range g.Regions {
				state, end := api.HumCont, min((r+1)*g.RegionWords, size)
				if r == 0 {
					state = api.HumStart
				}
				if x.State(r) != state || x.Top(r) != end || x.Tams(r) != r*g.RegionWords {
					t.Fatalf("%+v: region %d: %d, %d, %d", g, r, x.State(r), x.Top(r), x.Tams(r))
				}
			}
			if n, e := x.Claim(api.Eden); n != 0 || e != api.ErrFull {
				t.Errorf("%+v: Claim: %d, %v", g, n, e)
			}
		}
	}
}

// P7.3

// From each filling on, each number of words.
func TestBumpOfEachNumber(t *testing.T) {
	for _, g := range smallGeoms() {
		for used := range g.RegionWords + 1 {
			for n := -2; n <= g.RegionWords+2; n++ {
				b := newBoth(t, g)
				for r := range g.Regions {
					b.claim(t, filled[r%3])
				}
				r := g.Regions - 1
				if used > 0 {
					b.bump(t, r, used)
				}
				b.bump(t, r, n)
				b.wantKnown(t)
			}
		}
	}
}

// Bump and SetTop of each state, of what may be and of what may not.
func TestBumpAndSetTopOfEachState(t *testing.T) {
	for _, regionWords := range []int{1, 2, 3, 64} {
		for r := range 9 {
			first := r * regionWords
			for _, n := range around(regionWords) {
				b := mixed(t, regionWords)
				b.bump(t, r, n)
				b.wantKnown(t)
				for _, top := range []int{first + n, first - n, n} {
					b := mixed(t, regionWords)
					b.setTop(t, r, top)
					b.wantKnown(t)
				}
			}
		}
	}
}

// As many words as an int can be, and so many that they wrap round behind a Top.
func TestBumpOfFarNumbers(t *testing.T) {
	for _, g := range append(smallGeoms(), greatGeoms()...) {
		x := newTable(t, g)
		r, e := x.Run(g.Regions, g.Words)
		if e != api.OK {
			t.Fatal(r, e)
		}
		r = g.Regions - 1
		if e := x.Release(r); e != api.OK {
			t.Fatal(e)
		}
		if n, e := x.Claim(api.Old); n != r || e != api.OK {
			t.Fatal(n, e)
		}
		first := r * g.RegionWords
		for _, n := range append([]int{g.RegionWords + 1, math.MaxInt - first, math.MaxInt - first + 1, math.MaxInt - g.Words, math.MaxInt - g.Words + 1}, far...) {
			want := api.ErrFull
			if n < 1 {
				want = api.ErrRange
			} else if n <= g.RegionWords {
				continue
			}
			if at, e := x.Bump(r, n); at != 0 || e != want || x.Top(r) != first {
				t.Fatalf("%+v: Bump(%d, %d): %d, %v; Top %d", g, r, n, at, e, x.Top(r))
			}
		}
		if at, e := x.Bump(r, g.RegionWords); at != first || e != api.OK || x.Top(r) != g.Words {
			t.Fatalf("%+v: Bump(%d, %d): %d, %v; Top %d", g, r, g.RegionWords, at, e, x.Top(r))
		}
		for _, n := range []int{1, 2, g.RegionWords, math.MaxInt, math.MaxInt - g.Words, math.MaxInt - g.Words + 1} {
			if at, e := x.Bump(r, n); at != 0 || e != api.ErrFull || x.Top(r) != g.Words {
				t.Fatalf("%+v: Bump(%d, %d): %d, %v; Top %d", g, r, n, at, e, x.Top(r))
			}
		}
	}
}

// Word by word till a region is full, and not one more; then anew from where its Top is set.
func TestBumpTillFull(t *testing.T) {
	for _, s := range filled {
		b := newBoth(t, laid(3, 12))
		b.claim(t, api.Eden)
		b.claim(t, s)
		for range 13 {
			b.bump(t, 1, 1)
			b.wantKnown(t)
		}
		for _, top := range []int{23, 12, 24, 18, 18} {
			b.setTop(t, 1, top)
			b.wantKnown(t)
			b.bump(t, 1, 25-top)
			b.bump(t, 1, 24-top)
			b.wantKnown(t)
		}
	}
}

// Each Top that there is, and those about it, in the first region, in one of the midst and in the last.
func TestSetTopOfEachWord(t *testing.T) {
	for _, g := range smallGeoms() {
		b := taken(t, g, 1<<g.Regions-1)
		for r := range g.Regions {
			for top := -2; top <= g.Words+2; top++ {
				b.setTop(t, r, top)
				if b.x.Top(r) != r*g.RegionWords+b.m.parts[r].used {
					t.Fatalf("SetTop(%d, %d): Top %d", r, top, b.x.Top(r))
				}
			}
			for _, top := range far {
				b.setTop(t, r, top)
			}
			b.wantKnown(t)
		}
	}
}

// P7.4

// A mark is what the Top was, whatever becomes of the Top; it is changed by another mark alone.
func TestMark(t *testing.T) {
	b := newBoth(t, laid(3, 10))
	b.claim(t, api.Old)
	b.claim(t, api.Eden)
	tams := func(want int) {
		t.Helper()
		b.wantKnown(t)
		if got := b.x.Tams(1); got != want {
			t.Fatalf("Tams %d, not %d", got, want)
		}
	}
	b.bump(t, 1, 4)
	tams(10)
	b.mark(t, 1)
	tams(14)
	b.bump(t, 1, 6)
	tams(14)
	b.setTop(t, 1, 11)
	tams(14)
	b.turn(t, 1, api.Old)
	tams(14)
	b.mark(t, 1)
	tams(11)
	b.setTop(t, 1, 20)
	b.mark(t, 1)
	tams(20)
	b.setTop(t, 1, 10)
	tams(20)
	b.mark(t, 1)
	tams(10)
}

// Of each state, run's regions and free ones too.
func TestMarkOfEachState(t *testing.T) {
	for _, regionWords := range []int{1, 2, 64} {
		for r := -1; r <= 9; r++ {
			b := mixed(t, regionWords)
			b.mark(t, r)
			b.wantKnown(t)
			if b.x.Tams(r) != b.x.Top(r) {
				t.Fatalf("region %d: %d, %d", r, b.x.Tams(r), b.x.Top(r))
			}
		}
	}
}

// From each state to each, and to what is no state.
func TestTurn(t *testing.T) {
	for r := -1; r <= 9; r++ {
		for _, s := range append(noStates, states...) {
			b := mixed(t, 6)
			b.turn(t, r, s)
			b.wantKnown(t)
		}
	}
	b := newBoth(t, small())
	b.claim(t, api.Survivor)
	b.bump(t, 0, 7)
	b.mark(t, 0)
	b.bump(t, 0, 1)
	for _, from := range filled {
		for _, to := range filled {
			b.turn(t, 0, from)
			b.turn(t, 0, to)
			b.wantKnown(t)
			if b.x.State(0) != to || b.x.Top(0) != 8 || b.x.Tams(0) != 7 {
				t.Fatalf("from %d to %d: %d, %d, %d", from, to, b.x.State(0), b.x.Top(0), b.x.Tams(0))
			}
		}
	}
}

// Of each state, and once more; what is free then is claimed as if it were new.
func TestRelease(t *testing.T) {
	for _, regionWords := range []int{1, 2, 3, 64} {
		for r := -1; r <= 9; r++ {
			b := mixed(t, regionWords)
			b.release(t, r)
			b.wantKnown(t)
			b.release(t, r)
			b.bump(t, r, 1)
			b.turn(t, r, api.Old)
			b.wantKnown(t)
			for range 3 {
				claimed := b.claim(t, api.Eden)
				b.wantKnown(t)
				b.bump(t, claimed, regionWords)
				b.wantKnown(t)
			}
		}
	}
}

// A region that was filled, marked and given back has its first word as Top and as Tams, free and claimed again, by whichever call.
func TestReleasedRegionsAreEmpty(t *testing.T) {
	for _, s := range filled {
		b := newBoth(t, laid(3, 8))
		for range 3 {
			b.claim(t, s)
		}
		empty := func() {
			t.Helper()
			b.wantKnown(t)
			if b.x.Top(1) != 8 || b.x.Tams(1) != 8 {
				t.Fatalf("%d, %d", b.x.Top(1), b.x.Tams(1))
			}
		}
		for _, used := range []int{1, 5, 8} {
			b.bump(t, 1, used)
			b.mark(t, 1)
			b.release(t, 1)
			empty()
			b.mark(t, 1)
			empty()
			b.claim(t, s)
			empty()
			b.release(t, 1)
			b.run(t, 1, used)
			b.mark(t, 1)
			b.release(t, 1)
			empty()
			b.run(t, 1, used)
			b.wantKnown(t)
			if b.x.Tams(1) != 8 || b.x.Top(1) != 8+used {
				t.Fatalf("%d, %d", b.x.Tams(1), b.x.Top(1))
			}
			b.release(t, 1)
			b.claim(t, s)
			empty()
		}
	}
}

// Of a run each region is released for itself, whichever comes first.
func TestReleaseOfARun(t *testing.T) {
	for _, order := range [][]int{{1, 2, 3}, {1, 3, 2}, {2, 1, 3}, {2, 3, 1}, {3, 1, 2}, {3, 2, 1}} {
		b := newBoth(t, laid(5, 7))
		b.claim(t, api.Old)
		b.run(t, 3, 16)
		b.claim(t, api.Eden)
		for i, r := range order {
			b.mark(t, r)
			b.release(t, r)
			b.wantKnown(t)
			if got := len(b.x.List(api.HumStart)) + len(b.x.List(api.HumCont)); got != 2-i {
				t.Fatalf("%v: %d regions of the run are left", order, got)
			}
		}
		b.run(t, 3, 15)
		b.wantKnown(t)
	}
}

// P7.5

// A list is new memory each time: what is done to it is of no matter to the table, nor to another list.
func TestListIsNew(t *testing.T) {
	b := mixed(t, 4)
	b.claim(t, api.Eden)
	for _, s := range states {
		one, other := b.x.List(s), b.x.List(s)
		want := slices.Clone(other)
		for i := range one {
			one[i] = -7
		}
		_ = append(one[:0:cap(one)], slices.Repeat([]int{-8}, cap(one))...)
		if !slices.Equal(other, want) || !slices.Equal(b.x.List(s), want) {
			t.Errorf("List(%d): %v, not %v", s, other, want)
		}
		b.wantKnown(t)
	}
	kept := b.x.List(api.Eden)
	want := slices.Clone(kept)
	b.release(t, kept[0])
	b.claim(t, api.Old)
	if !slices.Equal(kept, want) {
		t.Errorf("a list that was given became %v", kept)
	}
}

// Of numbers that are no state there are no regions.
func TestListOfNoState(t *testing.T) {
	for _, b := range []both{mixed(t, 4), newBoth(t, small()), taken(t, small(), 15)} {
		for _, s := range noStates {
			if l := b.x.List(s); len(l) != 0 {
				t.Errorf("List(%d): %v", s, l)
			}
		}
	}
}

// Of the most regions each third one is in its state's list.
func TestListOfTheMostRegions(t *testing.T) {
	x := newTable(t, laid(maxRegions, 1))
	for r := range maxRegions {
		if n, e := x.Claim(filled[r%3]); n != r || e != api.OK {
			t.Fatal(n, e)
		}
	}
	for i, s := range filled {
		want := i
		for _, r := range x.List(s) {
			if r != want {
				t.Fatalf("List(%d): %d, not %d", s, r, want)
			}
			want += 3
		}
		if want < maxRegions {
			t.Fatalf("List(%d) ends ahead of %d", s, want)
		}
	}
}

// P7.6

// numbers gives numbers from all over by a rule that is always the same.
type numbers uint64

func (n *numbers) below(bound int) int {
	*n = *n*6364136223846793005 + 1442695040888963407
	return int(uint64(*n) >> 33 % uint64(bound))
}

// step makes one call, of numbers that may be and of such as may not.
func step(t *testing.T, n *numbers, b both) {
	t.Helper()
	r := n.below(b.g.Regions+2) - 1
	words := b.g.RegionWords
	s := api.RegionState(n.below(8) - 1)
	if n.below(3) > 0 {
		s = filled[n.below(3)]
	}
	switch n.below(12) {
	case 0, 1:
		b.claim(t, s)
	case 2:
		count := n.below(b.g.Regions+3) - 1
		b.run(t, count, count*words-n.below(words+2)+1)
	case 3, 4, 5:
		b.bump(t, r, n.below(words/2+3)-1)
	case 6:
		b.setTop(t, r, r*words+n.below(words+3)-1)
	case 7, 8:
		b.mark(t, r)
	case 9:
		b.turn(t, r, s)
	default:
		b.release(t, r)
	}
}

// All calls, one behind the other by a rule: what was told ahead is all that an answer hangs on.
func TestManyCalls(t *testing.T) {
	var n numbers = 7
	for _, g := range append(smallGeoms(), laid(20, 8), laid(13, 64), laid(40, 3)) {
		b := newBoth(t, g)
		for range 3000 {
			step(t, &n, b)
			b.wantKnown(t)
			wantOneListEach(t, g, b.x)
		}
	}
}

// wantOneListEach holds the lists against one another, without a model.
func wantOneListEach(t *testing.T, g geom.Geom, x *region.Table) {
	t.Helper()
	lists := make([]int, g.Regions)
	for _, s := range states {
		last := -1
		for _, r := range x.List(s) {
			if r <= last || x.State(r) != s {
				t.Fatalf("List(%d): %d behind %d; its state is %d", s, r, last, x.State(r))
			}
			last = r
			lists[r]++
		}
	}
	for r, in := range lists {
		if in != 1 {
			t.Fatalf("region %d is in %d lists", r, in)
		}
	}
}

// Words that were bumped, and those of runs, are each other's never, till their region is given back; and each region that is claimed is the lowest free one.
func TestBumpedWordsNeverOverlap(t *testing.T) {
	var n numbers = 77
	for _, g := range []geom.Geom{laid(6, 8), laid(5, 7), laid(12, 1), laid(3, 64)} {
		x := newTable(t, g)
		owner := make([]int, g.Words)
		take := func(at, size, who int) {
			t.Helper()
			for word := at; word < at+size; word++ {
				if owner[word] != 0 {
					t.Fatalf("%+v: the word %d is %d's already", g, word, owner[word])
				}
				owner[word] = who
			}
		}
		for who := 1; who < 4000; who++ {
			r, size := n.below(g.Regions), 1+n.below(g.RegionWords)
			free := x.List(api.Free)
			switch n.below(8) {
			case 0, 1:
				if got, e := x.Claim(filled[who%3]); e == api.OK && got != free[0] {
					t.Fatalf("%+v: Claim: %d, though %d is free", g, got, free[0])
				}
			case 2:
				if x.Release(r) == api.OK {
					clear(owner[r*g.RegionWords : (r+1)*g.RegionWords])
				}
			case 3:
				size += g.RegionWords
				if first, e := x.Run(2, size); e == api.OK {
					take(first*g.RegionWords, size, who)
				}
			default:
				if at, e := x.Bump(r, size); e == api.OK {
					take(at, size, who)
				}
			}
		}
	}
}

// The chapter's examples, in their order.
func TestExamples(t *testing.T) {
	x := newTable(t, small())
	is := func(what string, n int, e api.Errno, want int, wantE api.Errno) {
		t.Helper()
		if n != want || e != wantE {
			t.Errorf("%s: %d, %v, not %d, %v", what, n, e, want, wantE)
		}
	}
	n, e := x.Claim(api.Eden)
	is("Claim(Eden)", n, e, 0, api.OK)
	n, e = x.Claim(api.Old)
	is("Claim(Old)", n, e, 1, api.OK)
	n, e = x.Bump(1, 60)
	is("Bump(1, 60)", n, e, 64, api.OK)
	n, e = x.Bump(1, 5)
	is("Bump(1, 5)", n, e, 0, api.ErrFull)
	n, e = x.Run(2, 100)
	is("Run(2, 100)", n, e, 2, api.OK)
	is("State(2), Top(2)", x.Top(2), api.Errno(x.State(2)), 192, api.Errno(api.HumStart))
	is("State(3), Top(3)", x.Top(3), api.Errno(x.State(3)), 228, api.Errno(api.HumCont))
	n, e = x.Claim(api.Old)
	is("Claim(Old)", n, e, 0, api.ErrFull)
	is("Release(0)", 0, x.Release(0), 0, api.OK)
	n, e = x.Claim(api.Survivor)
	is("Claim(Survivor)", n, e, 0, api.OK)
	n, e = x.Run(1, 65)
	is("Run(1, 65)", n, e, 0, api.ErrRange)
	n, e = x.Bump(2, 1)
	is("Bump(2, 1)", n, e, 0, api.ErrShape)
	n, e = x.Claim(api.Free)
	is("Claim(Free)", n, e, 0, api.ErrShape)
}
