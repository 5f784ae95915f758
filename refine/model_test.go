package refine_test

import (
	"math"
	"reflect"
	"slices"
	"testing"

	"gleaner/api"
	"gleaner/buffer"
	"gleaner/heap"
)

// far are numbers at both ends of what an int can be, and such as sums, products and narrowings make right ones of.
var far = []int{
	math.MinInt, math.MinInt + 1, math.MinInt + 2, math.MinInt + 8, math.MinInt + 64, -1 << 62, 1 - 1<<62, -1 << 61, 1 - 1<<61, -1 << 60, -1 << 58, 1 - 1<<58, -1<<32 - 1, -1 << 32, 1 - 1<<32, 2 - 1<<32, -1 << 31, -1 << 29, -1 << 16, 1 - 1<<16, -257, -256, -255, -65, -64, -63, -9, -8, -7, -3, -2, -1,
	1 << 16, 1 << 19, 1<<19 + 1, 1 << 22, 1<<22 + 1, 1 << 29, 1<<29 + 1, 1<<31 - 1, 1 << 31, 1<<32 - 1, 1 << 32, 1<<32 + 1, 1<<32 + 2, 1<<32 + 64, 1 << 58, 1<<58 + 1, 1 << 60, 1<<60 + 1, 1 << 61, 1<<61 + 1, 1<<61 + 2, 1 << 62, 1<<62 + 1,
	math.MaxInt - 64, math.MaxInt - 8, math.MaxInt - 2, math.MaxInt - 1, math.MaxInt,
}

// none are numbers of none of so many things: those about the bounds, and the far ones.
func none(length int) []int {
	all := append([]int{-length, length, length + 1, length + 8, 2 * length, length + 256, length + 1<<16, length + 1<<32}, far...)
	return slices.DeleteFunc(all, func(n int) bool { return n >= 0 && n < length })
}

// The words of headers, by sums and products of layer 4's chapter.

func object(size, ptrs int) uint64 {
	return 1 + uint64(size)*4 + uint64(ptrs)*8388608
}

func aged(size, ptrs, age int) uint64 {
	return object(size, ptrs) + uint64(age)*17592186044416
}

func filler(size int) uint64 {
	return 2 + uint64(size)*4
}

func forward(size, to int) uint64 {
	return 3 + uint64(size)*4 + uint64(to)*8388608
}

// header takes a word apart by divisions; false, if it is none that may stand in a row.
func header(w uint64) (api.Header, bool) {
	const bits21 = 2097152
	kind, size, rest := api.HeadKind(w%4), int(w/4%bits21), w/4/bits21
	sized := size >= 1 && size <= 1048576
	switch kind {
	case 1:
		x := api.Header{Kind: kind, Size: size, Ptrs: int(rest % bits21), Age: int(rest / bits21 % 8)}
		return x, sized && x.Ptrs < size && rest/bits21/8 == 0
	case 2:
		return api.Header{Kind: kind, Size: size}, sized && rest == 0
	}
	return api.Header{}, false
}

// piece is a buffer's words: of those from from on and ahead of to so many are taken.
type piece struct {
	from, taken, to int
}

// look is one word that is looked at.
type look struct {
	at     int
	header bool
}

// model is the plainest heap: what stands in each word, what each region is, of which objects Offs knows; and which cards are to wait.
type model struct {
	c            api.Config
	region, card int // words
	words        []uint64
	states       []api.RegionState
	tops         []int
	known        []int // of each card the object that Offs knows of, or -1
	buffers      []piece
	dirty        []bool
	pushed       [][2]int // threads and cards
}

func blank(c api.Config) *model {
	m := &model{c: c, region: 1, card: 1}
	for range c.Shift {
		m.region *= 2
	}
	for range c.CardShift {
		m.card *= 2
	}
	m.words = make([]uint64, c.Regions*m.region)
	m.states = make([]api.RegionState, c.Regions)
	for r := range c.Regions {
		m.tops = append(m.tops, m.base(r))
	}
	m.buffers = make([]piece, c.Threads)
	m.dirty = make([]bool, len(m.words)/m.card)
	for range m.dirty {
		m.known = append(m.known, -1)
	}
	return m
}

func (m *model) base(r int) int {
	return r * m.region
}

func (m *model) cards() int {
	return len(m.dirty)
}

func (m *model) clone() *model {
	n := *m
	n.words, n.states, n.tops = slices.Clone(m.words), slices.Clone(m.states), slices.Clone(m.tops)
	n.known, n.buffers, n.dirty, n.pushed = slices.Clone(m.known), slices.Clone(m.buffers), slices.Clone(m.dirty), slices.Clone(m.pushed)
	return &n
}

// be makes regions from one on be of these states, with no words used.
func (m *model) be(r int, states ...api.RegionState) {
	copy(m.states[r:], states)
}

// put writes an object: where its references lead to, as far as they are told, and its data words.
func (m *model) put(at, size, ptrs int, fields ...uint64) {
	m.words[at] = object(size, ptrs)
	copy(m.words[at+1:at+size], fields)
	m.top(at, at+size)
}

func (m *model) fill(at, size int) {
	m.words[at] = filler(size)
	m.top(at, at+size)
}

// top has the region of what stands at an address, or all that a big object takes, be filled to another one.
func (m *model) top(at, to int) {
	r := at / m.region
	m.tops[r] = min(to, m.base(r+1))
	if m.states[r] != api.HumStart {
		return
	}
	for r++; r < len(m.states) && m.base(r) < to; r++ {
		m.tops[r] = min(to, m.base(r+1))
	}
}

// note has Offs know of what stands at an address.
func (m *model) note(at, size int) {
	for card := range m.known {
		if first := card * m.card; first >= at && first < at+size {
			m.known[card] = at
		}
	}
}

// noteAll has Offs know of all objects and fillers in rows of old and big regions.
func (m *model) noteAll() {
	for r, s := range m.states {
		if s != api.Old && s != api.HumStart {
			continue
		}
		for _, at := range m.row(r) {
			x, _ := header(m.words[at])
			m.note(at, x.Size)
		}
	}
}

// lead is the reference to what stands at an address, as a word.
func lead(at int) uint64 {
	return uint64(at) + 1
}

// end is where the row of a region ends that isn't big.
func (m *model) end(r int) int {
	end, found := m.tops[r], false
	for _, p := range m.buffers {
		left := p.from + p.taken
		if left < p.to && left/m.region == r && (!found || left < end) {
			end, found = left, true
		}
	}
	return end
}

// row are the addresses of a region's headers, as far as there is a row.
func (m *model) row(r int) []int {
	switch m.states[r] {
	case api.Free, api.HumCont:
		return nil
	case api.HumStart:
		return []int{m.base(r)}
	}
	var row []int
	for at := m.base(r); at < m.end(r); {
		x, is := header(m.words[at])
		if !is {
			break
		}
		row = append(row, at)
		at += x.Size
	}
	return row
}

// owner is the region whose row a region's words belong to; -1, if none.
func (m *model) owner(r int) int {
	if m.states[r] != api.HumCont {
		return r
	}
	for r >= 0 && m.states[r] == api.HumCont {
		r--
	}
	if r >= 0 && m.states[r] == api.HumStart {
		return r
	}
	return -1
}

// fields are the addresses of the references that lie in a card, of a sound heap, by the chapter's sentence alone: whatever Offs knows.
func (m *model) fields(card int) []int {
	var fields []int
	r := card * m.card / m.region
	if s := m.states[r]; s == api.Free || s == api.Eden || s == api.Survivor || m.owner(r) < 0 {
		return nil
	}
	for _, at := range m.row(m.owner(r)) {
		x, _ := header(m.words[at])
		for k := range x.Ptrs {
			if field := at + 1 + k; field/m.card == card {
				fields = append(fields, field)
			}
		}
	}
	return fields
}

// looks are the words that are looked at, of a heap that may be amiss: headers from the one on that Offs knows of, else from the row's first one on, and behind each one its object's references that lie in the card. With an error the last one is no header.
func (m *model) looks(card int) ([]look, api.Errno) {
	if card < 0 || card >= m.cards() {
		return nil, api.ErrRange
	}
	first, behind := card*m.card, (card+1)*m.card
	r := first / m.region
	switch m.states[r] {
	case api.Old:
		if first >= m.end(r) {
			return nil, api.OK
		}
		from := m.known[card]
		if from < 0 || from/m.region != r {
			from = m.base(r)
		}
		return m.walk(nil, card, from, min(behind, m.end(r)))
	case api.HumStart, api.HumCont:
		begin := m.owner(r)
		if begin < 0 {
			return nil, api.OK
		}
		if x, is := header(m.words[m.base(begin)]); is && x.Kind != 1 {
			return []look{{m.base(begin), true}}, api.ErrBroken
		}
		return m.walk(nil, card, m.base(begin), m.base(begin)+1)
	}
	return nil, api.OK
}

// walk puts the looks at the headers from one address on and ahead of another behind others, with those at the references in a card.
func (m *model) walk(looks []look, card, at, to int) ([]look, api.Errno) {
	for at < to {
		looks = append(looks, look{at, true})
		x, is := header(m.words[at])
		if !is {
			return looks, api.ErrBroken
		}
		for field := at + 1; field <= at+x.Ptrs; field++ {
			if field/m.card == card {
				looks = append(looks, look{field, false})
			}
		}
		at += x.Size
	}
	return looks, api.OK
}

// target is the region that a word leads into as a reference; -1, if none.
func (m *model) target(w uint64) int {
	for r := range m.states {
		if w > uint64(m.base(r)) && w <= uint64(m.base(r+1)) {
			return r
		}
	}
	return -1
}

// one has a twin of a heap remember what a reference asks for.
func (m *model) one(twin *heap.Heap, field int) {
	if to := m.target(m.words[field]); to >= 0 && to != field/m.region {
		twin.Sets.Add(to, field/m.card)
	}
}

// look does to a twin of a heap what looking at a card must do.
func (m *model) look(twin *heap.Heap, card int) api.Errno {
	looks, e := m.looks(card)
	if e != api.OK {
		return e
	}
	twin.Cards.Clean(card)
	for _, l := range looks {
		if !l.header {
			m.one(twin, l.at)
		}
	}
	return api.OK
}

// drain does to a twin of a heap what Drain must do.
func (m *model) drain(twin *heap.Heap, more []int) api.Errno {
	answer := api.OK
	for _, card := range append(twin.Queue.Drain(), more...) {
		if m.look(twin, card) == api.ErrBroken {
			answer = api.ErrBroken
			twin.Cards.Clean(card)
		}
	}
	return answer
}

// lay makes a heap by the layers' calls that is what the model is.
func (m *model) lay(t *testing.T) *heap.Heap {
	t.Helper()
	h, e := heap.New(m.c)
	if h == nil || e != api.OK {
		t.Fatalf("New(%+v): %v, %v", m.c, h, e)
	}
	m.layRegions(t, h)
	for at, w := range m.words {
		if w != 0 {
			h.Arena.Store(at, w)
		}
	}
	for i, p := range m.buffers {
		h.Buffers[i], e = buffer.New(p.from, p.to)
		if e != api.OK {
			t.Fatalf("a buffer of %d to %d: %v", p.from, p.to, e)
		}
		h.Buffers[i].Take(p.taken)
	}
	// A Put reaches the cards ahead of the one that it is for, too: these have their turn behind it.
	for card := m.cards() - 1; card >= 0; card-- {
		first := card * m.card
		if at := m.known[card]; at >= 0 {
			h.Offs.Put(at, first+1-at)
		} else {
			h.Offs.Drop(first, first+1)
		}
	}
	for card, is := range m.dirty {
		if is {
			h.Cards.Dirty(card)
		}
	}
	for _, p := range m.pushed {
		h.Queue.Push(p[0], p[1])
	}
	return h
}

// layRegions claims the regions from the first one on, free ones too, so that the lowest free one is always the next; these are released at last.
func (m *model) layRegions(t *testing.T, h *heap.Heap) {
	t.Helper()
	var free []int
	for r := 0; r < len(m.states); {
		n := 1
		for r+n < len(m.states) && m.states[r+n] == api.HumCont {
			n++
		}
		first, e := h.Regions.Run(n, max(m.tops[r+n-1]-m.base(r), m.base(n-1)+1))
		if first != r || e != api.OK {
			t.Fatalf("a run of %d at %d: %d, %v", n, r, first, e)
		}
		switch m.states[r] {
		case api.Free:
			free = append(free, r)
		case api.Eden, api.Survivor, api.Old:
			h.Regions.Release(r)
			h.Regions.Claim(m.states[r])
			h.Regions.SetTop(r, m.tops[r])
		}
		r += n
	}
	for _, r := range free {
		h.Regions.Release(r)
	}
	for r, s := range m.states {
		if h.Regions.State(r) != s {
			t.Fatalf("region %d is %d, not %d", r, h.Regions.State(r), s)
		}
	}
}

// same tells whether a heap is to the last bit what its twin is, but for how often words were looked at.
func same(h, twin *heap.Heap) bool {
	one, other := *h, *twin
	one.Arena, other.Arena = nil, nil
	if !reflect.DeepEqual(one, other) {
		return false
	}
	for at := range h.Geom.Words {
		w, _ := h.Arena.Load(at)
		if v, _ := twin.Arena.Load(at); v != w {
			return false
		}
	}
	return true
}

// wantTwin asks for a heap that is what its twin is.
func wantTwin(t *testing.T, h, twin *heap.Heap, what string) {
	t.Helper()
	if same(h, twin) {
		return
	}
	for r := range h.Geom.Regions {
		if l, want := h.Sets.Cards(r), twin.Sets.Cards(r); !slices.Equal(l, want) {
			t.Errorf("%s: region %d remembers %v, not %v", what, r, l, want)
		}
	}
	if l, want := h.Cards.List(), twin.Cards.List(); !slices.Equal(l, want) {
		t.Errorf("%s: dirty: %v, not %v", what, l, want)
	}
	if l, want := h.Queue.Drain(), twin.Queue.Drain(); !slices.Equal(l, want) {
		t.Errorf("%s: there wait %v, not %v", what, l, want)
	}
	t.Fatalf("%s: a change", what)
}

// dice give numbers by a rule that is always the same.
type dice uint64

func (d *dice) below(n int) int {
	*d = *d*6364136223846793005 + 1442695040888963407
	return int(uint64(*d) >> 33 % uint64(n))
}

func (d *dice) oneIn(n int) bool {
	return d.below(n) == 0
}

// pick is one of a list.
func pick[T any](d *dice, list []T) T {
	return list[d.below(len(list))]
}
