package mark_test

import (
	"math"
	"reflect"
	"slices"
	"testing"

	"gleaner/api"
	"gleaner/buffer"
	"gleaner/heap"
)

// far are numbers at both ends of what an int can be, and such as sums, products and narrowings make right ones of.
var far = []int{
	math.MinInt, math.MinInt + 1, math.MinInt + 2, math.MinInt + 8, math.MinInt + 64, -1 << 62, 1 - 1<<62, -1 << 61, 1 - 1<<61, -1 << 60, -1 << 58, 1 - 1<<58, -1<<32 - 1, -1 << 32, 1 - 1<<32, 2 - 1<<32, -1 << 31, -1 << 29, -1 << 16, 1 - 1<<16, -257, -256, -255, -65, -64, -63, -9, -8, -7, -3, -2, -1,
	1 << 16, 1 << 19, 1<<19 + 1, 1 << 22, 1<<22 + 1, 1 << 29, 1<<29 + 1, 1<<31 - 1, 1 << 31, 1<<32 - 1, 1 << 32, 1<<32 + 1, 1<<32 + 2, 1<<32 + 64, 1 << 58, 1<<58 + 1, 1 << 60, 1<<60 + 1, 1 << 61, 1<<61 + 1, 1<<61 + 2, 1 << 62, 1<<62 + 1,
	math.MaxInt - 64, math.MaxInt - 8, math.MaxInt - 2, math.MaxInt - 1, math.MaxInt,
}

// none are numbers of none of so many things: those about the bounds, and the far ones.
func none(length int) []int {
	all := append([]int{-length, length, length + 1, length + 8, 2 * length, length + 256, length + 1<<16, length + 1<<32}, far...)
	return slices.DeleteFunc(all, func(n int) bool { return n >= 0 && n < length })
}

// The words of headers, by sums and products of layer 4's chapter.

func object(size, ptrs int) uint64 {
	return 1 + uint64(size)*4 + uint64(ptrs)*8388608
}

func aged(size, ptrs, age int) uint64 {
	return object(size, ptrs) + uint64(age)*17592186044416
}

func filler(size int) uint64 {
	return 2 + uint64(size)*4
}

func forward(size, to int) uint64 {
	return 3 + uint64(size)*4 + uint64(to)*8388608
}

// junk is no header's word, and leads to no word.
const junk = math.MaxUint64 - 3

// header takes a word apart by divisions; false, if it is none that may stand in a row.
func header(w uint64) (api.Header, bool) {
	const bits21 = 2097152
	kind, size, rest := api.HeadKind(w%4), int(w/4%bits21), w/4/bits21
	sized := size >= 1 && size <= 1048576
	switch kind {
	case 1:
		x := api.Header{Kind: kind, Size: size, Ptrs: int(rest % bits21), Age: int(rest / bits21 % 8)}
		return x, sized && x.Ptrs < size && rest/bits21/8 == 0
	case 2:
		return api.Header{Kind: kind, Size: size}, sized && rest == 0
	}
	return api.Header{}, false
}

// piece is a buffer's words: of those from from on and ahead of to so many are taken.
type piece struct {
	from, taken, to int
}

// model is the plainest heap: what stands in each word, what each region is, who has handles; and what the tables tell besides that isn't to be changed without need.
type model struct {
	c            api.Config
	region, card int // words
	words        []uint64
	states       []api.RegionState
	tops, tams   []int
	buffers      []piece
	handles      [][]uint64
	marks        []int    // words that are marked ahead of a cycle
	known        []int    // of each card the object that Offs knows of, or -1
	dirty        []int    // cards
	sets         [][2]int // homes and cards that they remember
	pushed       [][2]int // threads and cards
}

func blank(c api.Config) *model {
	m := &model{c: c, region: 1, card: 1}
	for range c.Shift {
		m.region *= 2
	}
	for range c.CardShift {
		m.card *= 2
	}
	m.words = make([]uint64, c.Regions*m.region)
	m.states = make([]api.RegionState, c.Regions)
	for r := range c.Regions {
		m.tops, m.tams = append(m.tops, m.base(r)), append(m.tams, m.base(r))
	}
	m.buffers, m.handles = make([]piece, c.Threads), make([][]uint64, c.Threads)
	for range len(m.words) / m.card {
		m.known = append(m.known, -1)
	}
	return m
}

func (m *model) base(r int) int {
	return r * m.region
}

func (m *model) clone() *model {
	n := *m
	n.words, n.states, n.tops, n.tams = slices.Clone(m.words), slices.Clone(m.states), slices.Clone(m.tops), slices.Clone(m.tams)
	n.buffers, n.handles, n.marks, n.known = slices.Clone(m.buffers), slices.Clone(m.handles), slices.Clone(m.marks), slices.Clone(m.known)
	n.dirty, n.sets, n.pushed = slices.Clone(m.dirty), slices.Clone(m.sets), slices.Clone(m.pushed)
	for i, l := range n.handles {
		n.handles[i] = slices.Clone(l)
	}
	return &n
}

// withStack is the model with another bound of the marking's stack.
func (m *model) withStack(stack int) *model {
	n := m.clone()
	n.c.Stack = stack
	return n
}

// be makes regions from one on be of these states, with no words used.
func (m *model) be(r int, states ...api.RegionState) {
	copy(m.states[r:], states)
}

// put writes an object: where its references lead to, as far as they are told, and its data words.
func (m *model) put(at, size, ptrs int, fields ...uint64) {
	m.words[at] = object(size, ptrs)
	copy(m.words[at+1:at+size], fields)
	m.top(at, at+size)
}

func (m *model) fill(at, size int) {
	m.words[at] = filler(size)
	m.top(at, at+size)
}

// top has the region of what stands at an address, or all that a big object takes, be filled to another one.
func (m *model) top(at, to int) {
	r := at / m.region
	m.tops[r] = min(to, m.base(r+1))
	if m.states[r] != api.HumStart {
		return
	}
	for r++; r < len(m.states) && m.base(r) < to; r++ {
		m.tops[r] = min(to, m.base(r+1))
	}
}

// note has Offs know of what stands at an address.
func (m *model) note(at, size int) {
	for card := range m.known {
		if first := card * m.card; first >= at && first < at+size {
			m.known[card] = at
		}
	}
}

// noteAll has Offs know of all objects and fillers in rows of old and big regions.
func (m *model) noteAll() *model {
	for r, s := range m.states {
		if s != api.Old && s != api.HumStart {
			continue
		}
		for _, at := range m.row(r) {
			x, _ := header(m.words[at])
			m.note(at, x.Size)
		}
	}
	return m
}

// handle gives thread 0 a handle of what stands at each of these addresses.
func (m *model) handle(all ...int) *model {
	for _, at := range all {
		m.handles[0] = append(m.handles[0], lead(at))
	}
	return m
}

// lead is the reference to what stands at an address, as a word.
func lead(at int) uint64 {
	return uint64(at) + 1
}

// target is the word that a word leads to as a reference; -1, if none.
func (m *model) target(w uint64) int {
	if w == 0 || w > uint64(len(m.words)) {
		return -1
	}
	return int(w) - 1
}

// end is where the row of a region ends that isn't big.
func (m *model) end(r int) int {
	end, found := m.tops[r], false
	for _, p := range m.buffers {
		left := p.from + p.taken
		if left < p.to && left/m.region == r && (!found || left < end) {
			end, found = left, true
		}
	}
	return end
}

// row are the addresses of a region's headers, as far as there is a row.
func (m *model) row(r int) []int {
	row, _ := m.whole(r)
	return row
}

// whole is a region's row, and whether it is one.
func (m *model) whole(r int) ([]int, bool) {
	switch m.states[r] {
	case api.Free, api.HumCont:
		return nil, true
	case api.HumStart:
		x, is := header(m.words[m.base(r)])
		is = is && x.Kind == api.HeadObject
		for k := 1; is && k*m.region < x.Size; k++ {
			is = r+k < len(m.states) && m.states[r+k] == api.HumCont
		}
		return []int{m.base(r)}, is
	}
	var row []int
	at, end := m.base(r), m.end(r)
	for at < end {
		x, is := header(m.words[at])
		if !is || x.Size > end-at {
			return row, false
		}
		row = append(row, at)
		at += x.Size
	}
	return row, true
}

// isObject tells whether an object's header stands at an address.
func (m *model) isObject(at int) bool {
	x, is := header(m.words[at])
	return is && x.Kind == api.HeadObject
}

// objects are the addresses of those in all rows of these states.
func (m *model) objects(states ...api.RegionState) []int {
	var all []int
	for r, s := range m.states {
		if !slices.Contains(states, s) {
			continue
		}
		for _, at := range m.row(r) {
			if m.isObject(at) {
				all = append(all, at)
			}
		}
	}
	return all
}

// fields are the words of the references of what stands at an address; none of what is no object, or isn't wholly there.
func (m *model) fields(at int) []uint64 {
	x, is := header(m.words[at])
	if !is || x.Kind != api.HeadObject || at+x.Size > len(m.words) {
		return nil
	}
	return m.words[at+1 : at+1+x.Ptrs]
}

// lay makes a heap by the layers' calls that is what the model is.
func (m *model) lay(t *testing.T) *heap.Heap {
	t.Helper()
	h, e := heap.New(m.c)
	if h == nil || e != api.OK {
		t.Fatalf("New(%+v): %v, %v", m.c, h, e)
	}
	m.layRegions(t, h)
	for at, w := range m.words {
		if w != 0 {
			h.Arena.Store(at, w)
		}
	}
	for i, p := range m.buffers {
		h.Buffers[i], e = buffer.New(p.from, p.to)
		if e != api.OK {
			t.Fatalf("a buffer of %d to %d: %v", p.from, p.to, e)
		}
		h.Buffers[i].Take(p.taken)
		for _, w := range m.handles[i] {
			if e := h.Roots[i].Push(api.Ref(w)); e != api.OK {
				t.Fatalf("a handle of the thread %d: %v", i, e)
			}
		}
	}
	for _, at := range m.marks {
		h.Marks.Put(at)
	}
	m.layCards(h)
	return h
}

// layRegions claims the regions from the first one on, free ones too, so that the lowest free one is always the next; these are released at last.
func (m *model) layRegions(t *testing.T, h *heap.Heap) {
	t.Helper()
	var free []int
	for r := 0; r < len(m.states); {
		n := 1
		for r+n < len(m.states) && m.states[r+n] == api.HumCont {
			n++
		}
		first, e := h.Regions.Run(n, max(m.tops[r+n-1]-m.base(r), m.base(n-1)+1))
		if first != r || e != api.OK {
			t.Fatalf("a run of %d at %d: %d, %v", n, r, first, e)
		}
		switch m.states[r] {
		case api.Free:
			free = append(free, r)
		case api.Eden, api.Survivor, api.Old:
			h.Regions.Release(r)
			h.Regions.Claim(m.states[r])
			h.Regions.SetTop(r, m.tams[r])
			h.Regions.Mark(r)
			h.Regions.SetTop(r, m.tops[r])
		}
		r += n
	}
	for _, r := range free {
		h.Regions.Release(r)
	}
	for r, s := range m.states {
		if h.Regions.State(r) != s {
			t.Fatalf("region %d is %d, not %d", r, h.Regions.State(r), s)
		}
	}
}

func (m *model) layCards(h *heap.Heap) {
	// A Put reaches the cards ahead of the one that it is for, too: these have their turn behind it.
	for card := len(m.known) - 1; card >= 0; card-- {
		first := card * m.card
		if at := m.known[card]; at >= 0 {
			h.Offs.Put(at, first+1-at)
		} else {
			h.Offs.Drop(first, first+1)
		}
	}
	for _, card := range m.dirty {
		h.Cards.Dirty(card)
	}
	for _, s := range m.sets {
		h.Sets.Add(s[0], s[1])
	}
	for _, p := range m.pushed {
		h.Queue.Push(p[0], p[1])
	}
}

// strew has cards be dirty, wait and be remembered all over the heap, and words be marked, so that what is changed without need is seen.
func (m *model) strew() *model {
	cards := len(m.known)
	for card := range cards {
		if card%3 != 1 {
			m.dirty = append(m.dirty, card)
		}
		m.sets = append(m.sets, [2]int{card * 7 % len(m.states), card})
		if card%5 == 0 {
			m.pushed = append(m.pushed, [2]int{card % m.c.Threads, card})
		}
	}
	for at := range m.words {
		if at%6 < 2 {
			m.marks = append(m.marks, at)
		}
	}
	return m
}

// same tells whether a heap is to the last bit what its twin is, but for how often words were looked at.
func same(h, twin *heap.Heap) bool {
	one, other := *h, *twin
	one.Arena, other.Arena = nil, nil
	if !reflect.DeepEqual(one, other) {
		return false
	}
	for at := range h.Geom.Words {
		w, _ := h.Arena.Load(at)
		if v, _ := twin.Arena.Load(at); v != w {
			return false
		}
	}
	return true
}

// wantTwin asks for a heap that is what its twin is.
func wantTwin(t *testing.T, h, twin *heap.Heap, what string) {
	t.Helper()
	if same(h, twin) {
		return
	}
	if l, want := h.Marks.List(), twin.Marks.List(); !slices.Equal(l, want) {
		t.Errorf("%s: marked: %v, not %v", what, l, want)
	}
	for r := range h.Geom.Regions {
		s, top, tams := h.Regions.State(r), h.Regions.Top(r), h.Regions.Tams(r)
		if s != twin.Regions.State(r) || top != twin.Regions.Top(r) || tams != twin.Regions.Tams(r) {
			t.Errorf("%s: region %d is %d, Top %d, Tams %d, not %d, %d, %d", what, r, s, top, tams, twin.Regions.State(r), twin.Regions.Top(r), twin.Regions.Tams(r))
		}
		if l, want := h.Sets.Cards(r), twin.Sets.Cards(r); !slices.Equal(l, want) {
			t.Errorf("%s: region %d remembers %v, not %v", what, r, l, want)
		}
	}
	for at := range h.Geom.Words {
		w, _ := h.Arena.Load(at)
		if v, _ := twin.Arena.Load(at); v != w {
			t.Errorf("%s: the word %d: %d, not %d", what, at, w, v)
		}
	}
	for card := range h.Geom.Cards {
		at, e := h.Offs.First(card)
		if v, w := twin.Offs.First(card); at != v || e != w {
			t.Errorf("%s: the card %d: %d, %v, not %d, %v", what, card, at, e, v, w)
		}
	}
	t.Fatalf("%s: a change", what)
}

// dice give numbers by a rule that is always the same.
type dice uint64

func (d *dice) below(n int) int {
	*d = *d*6364136223846793005 + 1442695040888963407
	return int(uint64(*d) >> 33 % uint64(n))
}

func (d *dice) oneIn(n int) bool {
	return d.below(n) == 0
}

// pick is one of a list.
func pick[T any](d *dice, list []T) T {
	return list[d.below(len(list))]
}
