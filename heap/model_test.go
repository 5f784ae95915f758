package heap_test

import (
	"math"
	"reflect"
	"slices"
	"testing"

	"gleaner/api"
	"gleaner/buffer"
	"gleaner/heap"
)

// far are numbers at both ends of what an int can be, where sums, products and narrowings wrap round.
var far = []int{
	math.MinInt, math.MinInt + 1, math.MinInt + 2, math.MinInt + 64, -1 << 62, -1 << 58, 1 - 1<<58, -1 << 57, -1<<32 - 1, -1 << 32, 1 - 1<<32, 2 - 1<<32, -1 << 31, -1 << 26, -1 << 16, 1 - 1<<16, -257, -256, -255, -65, -64, -63, -9, -8, -5, -4, -3, -2, -1,
	1 << 16, 1<<16 + 1, 1 << 22, 1<<22 + 1, 1 << 26, 1<<26 + 1, 1<<31 - 1, 1 << 31, 1<<32 - 1, 1 << 32, 1<<32 + 1, 1<<32 + 2, 1<<32 + 64, 1 << 57, 1<<57 + 1, 1 << 58, 1<<58 + 1, 1<<58 + 2, 1 << 62, 1<<62 + 1,
	math.MaxInt - 64, math.MaxInt - 2, math.MaxInt - 1, math.MaxInt,
}

// none are numbers of none of so many things: those about the bounds, and the far ones.
func none(length int) []int {
	all := append([]int{-length, length, length + 1, length + 8, 2 * length, length + 256, length + 1<<16}, far...)
	return slices.DeleteFunc(all, func(n int) bool { return n >= 0 && n < length })
}

// The words of headers, by sums and products of layer 4's chapter.

func object(size, ptrs int) uint64 {
	return 1 + uint64(size)*4 + uint64(ptrs)*8388608
}

func aged(size, ptrs, age int) uint64 {
	return object(size, ptrs) + uint64(age)*17592186044416
}

func filler(size int) uint64 {
	return 2 + uint64(size)*4
}

func forward(size, to int) uint64 {
	return 3 + uint64(size)*4 + uint64(to)*8388608
}

// header takes a word apart by divisions; false, if it is that of none.
func header(w uint64) (api.Header, bool) {
	const bits21, bits22 = 2097152, 4194304
	kind, size, rest := api.HeadKind(w%4), int(w/4%bits21), w/4/bits21
	sized := size >= 1 && size <= 1048576
	switch kind {
	case api.HeadObject:
		x := api.Header{Kind: kind, Size: size, Ptrs: int(rest % bits21), Age: int(rest / bits21 % 8)}
		return x, sized && x.Ptrs < size && rest/bits21/8 == 0
	case api.HeadFiller:
		return api.Header{Kind: kind, Size: size}, sized && rest == 0
	case api.HeadForward:
		return api.Header{Kind: kind, Size: size, To: int(rest % bits22)}, sized && rest/bits22 == 0
	}
	return api.Header{}, false
}

// piece is a buffer's words: of those from from on and ahead of to so many are taken.
type piece struct {
	from, taken, to int
}

func (p piece) hasLeft() bool {
	return p.from+p.taken < p.to
}

// model is the plainest heap: what stands in each word, what each region is; it looks at all of it each time.
type model struct {
	c       api.Config
	region  int // words
	card    int // words
	words   []uint64
	states  []api.RegionState
	tops    []int
	buffers []piece
	handles [][]api.Ref
	known   [][2]int // homes and the cards that were added to them, no more than 4 of a region to one home
}

func blank(c api.Config) *model {
	m := &model{c: c, region: 1, card: 1}
	for range c.Shift {
		m.region *= 2
	}
	for range c.CardShift {
		m.card *= 2
	}
	m.words = make([]uint64, c.Regions*m.region)
	m.states = make([]api.RegionState, c.Regions)
	for r := range c.Regions {
		m.tops = append(m.tops, m.base(r))
	}
	m.buffers = make([]piece, c.Threads)
	m.handles = make([][]api.Ref, c.Threads)
	return m
}

func (m *model) base(r int) int {
	return r * m.region
}

func (m *model) clone() *model {
	n := *m
	n.words, n.states, n.tops = slices.Clone(m.words), slices.Clone(m.states), slices.Clone(m.tops)
	n.buffers, n.known = slices.Clone(m.buffers), slices.Clone(m.known)
	n.handles = nil
	for _, l := range m.handles {
		n.handles = append(n.handles, slices.Clone(l))
	}
	return &n
}

// be makes regions from one on be of these states, with no words used.
func (m *model) be(r int, states ...api.RegionState) {
	copy(m.states[r:], states)
}

// put writes an object: where its references lead to, as far as they are told, and its data words.
func (m *model) put(at, size, ptrs int, fields ...uint64) {
	m.words[at] = object(size, ptrs)
	copy(m.words[at+1:at+size], fields)
	m.top(at, at+size)
}

func (m *model) fill(at, size int) {
	m.words[at] = filler(size)
	m.top(at, at+size)
}

// top has the region of what stands at an address, or all that a big object takes, be filled to another one.
func (m *model) top(at, to int) {
	r := at / m.region
	m.tops[r] = min(to, m.base(r+1))
	if m.states[r] != api.HumStart {
		return
	}
	for r++; r < len(m.states) && m.base(r) < to; r++ {
		m.tops[r] = min(to, m.base(r+1))
	}
}

// lead is the reference to what stands at an address, as a word.
func lead(at int) uint64 {
	return uint64(at) + 1
}

// lay makes a heap by the layers' calls that is what the model is.
func (m *model) lay(t *testing.T) *heap.Heap {
	t.Helper()
	h, e := heap.New(m.c)
	if h == nil || e != api.OK {
		t.Fatalf("New(%+v): %v, %v", m.c, h, e)
	}
	m.layRegions(t, h)
	for at, w := range m.words {
		if w != 0 {
			h.Arena.Store(at, w)
		}
	}
	for i, p := range m.buffers {
		h.Buffers[i], e = buffer.New(p.from, p.to)
		if e != api.OK {
			t.Fatalf("a buffer of %d to %d: %v", p.from, p.to, e)
		}
		h.Buffers[i].Take(p.taken)
	}
	for i, l := range m.handles {
		for _, r := range l {
			h.Roots[i].Push(r)
		}
	}
	for _, k := range m.known {
		h.Sets.Add(k[0], k[1])
	}
	return h
}

// layRegions claims the regions from the first one on, free ones too, so that the lowest free one is always the next; these are released at last.
func (m *model) layRegions(t *testing.T, h *heap.Heap) {
	t.Helper()
	var free []int
	for r := 0; r < len(m.states); {
		n := 1
		for r+n < len(m.states) && m.states[r+n] == api.HumCont {
			n++
		}
		first, e := h.Regions.Run(n, max(m.tops[r+n-1]-m.base(r), m.base(n-1)+1))
		if first != r || e != api.OK {
			t.Fatalf("a run of %d at %d: %d, %v", n, r, first, e)
		}
		switch m.states[r] {
		case api.Free:
			free = append(free, r)
		case api.Eden, api.Survivor, api.Old:
			h.Regions.Release(r)
			h.Regions.Claim(m.states[r])
			h.Regions.SetTop(r, m.tops[r])
		}
		r += n
	}
	for _, r := range free {
		h.Regions.Release(r)
	}
	for r, s := range m.states {
		if h.Regions.State(r) != s {
			t.Fatalf("region %d is %d, not %d", r, h.Regions.State(r), s)
		}
	}
}

// end is where the row of a region that isn't big ends.
func (m *model) end(r int) int {
	end := m.tops[r]
	found := false
	for _, p := range m.buffers {
		left := p.from + p.taken
		if p.hasLeft() && left >= m.base(r) && left < m.base(r+1) && (!found || left < end) {
			end, found = left, true
		}
	}
	return end
}

func (m *model) row(r int) ([]int, api.Errno) {
	if r < 0 || r >= len(m.states) {
		return nil, api.ErrRange
	}
	base := m.base(r)
	switch m.states[r] {
	case api.Free, api.HumCont:
		return nil, api.OK
	case api.HumStart:
		if x, is := header(m.words[base]); !is || x.Kind != api.HeadObject || !m.takes(r, x.Size) {
			return nil, api.ErrBroken
		}
		return []int{base}, api.OK
	}
	var row []int
	for at := base; at != m.end(r); {
		x, is := header(m.words[at])
		if !is || x.Kind == api.HeadForward || at+x.Size > m.end(r) {
			return nil, api.ErrBroken
		}
		row = append(row, at)
		at += x.Size
	}
	return row, api.OK
}

// takes tells whether an object that begins at a region has regions of its own behind it for all of its words.
func (m *model) takes(r, size int) bool {
	for size -= m.region; size > 0; size -= m.region {
		r++
		if r >= len(m.states) || m.states[r] != api.HumCont {
			return false
		}
	}
	return true
}

func (m *model) object(r api.Ref) (api.Header, api.Errno) {
	if r == 0 {
		return api.Header{}, api.ErrNilRef
	}
	if r > api.Ref(len(m.words)) {
		return api.Header{}, api.ErrRange
	}
	x, is := header(m.words[r-1])
	if !is || x.Kind != api.HeadObject {
		return api.Header{}, api.ErrBroken
	}
	return x, api.OK
}

// objects are the addresses of all objects in rows, rising; false, if a row is none.
func (m *model) objects() ([]int, bool) {
	var all []int
	for r := range m.states {
		row, e := m.row(r)
		if e != api.OK {
			return nil, false
		}
		for _, at := range row {
			if x, _ := header(m.words[at]); x.Kind == api.HeadObject {
				all = append(all, at)
			}
		}
	}
	return all, true
}

// fields are an object's references and its data words.
func (m *model) fields(at int) ([]uint64, []uint64) {
	x, _ := header(m.words[at])
	return m.words[at+1 : at+1+x.Ptrs], m.words[at+1+x.Ptrs : at+x.Size]
}

func (m *model) check() api.Errno {
	all, is := m.objects()
	if !is {
		return api.ErrBroken
	}
	var refs []uint64
	for _, at := range all {
		ptrs, _ := m.fields(at)
		refs = append(refs, ptrs...)
	}
	for _, l := range m.handles {
		for _, r := range l {
			refs = append(refs, uint64(r))
		}
	}
	for _, r := range refs {
		if r != 0 && !slices.ContainsFunc(all, func(at int) bool { return lead(at) == r }) {
			return api.ErrBroken
		}
	}
	return api.OK
}

func (m *model) shape() ([]uint64, api.Errno) {
	if m.check() != api.OK {
		return nil, api.ErrBroken
	}
	var told []uint64
	number := func(r uint64) uint64 {
		if r == 0 {
			return 0
		}
		if !slices.Contains(told, r) {
			told = append(told, r)
		}
		return uint64(slices.Index(told, r)) + 1
	}
	var shape []uint64
	for _, l := range m.handles {
		shape = append(shape, uint64(len(l)))
		for _, r := range l {
			shape = append(shape, number(uint64(r)))
		}
	}
	for i := 0; i < len(told); i++ {
		ptrs, data := m.fields(int(told[i] - 1))
		shape = append(shape, uint64(len(ptrs)), uint64(len(data)))
		for _, r := range ptrs {
			shape = append(shape, number(r))
		}
		shape = append(shape, data...)
	}
	return shape, api.OK
}

// among tells whether a region, or one that its big object takes, is among homes.
func (m *model) among(r int, homes []int) bool {
	if slices.Contains(homes, r) {
		return true
	}
	if m.states[r] != api.HumStart {
		return false
	}
	x, _ := header(m.words[m.base(r)])
	for behind := r + 1; m.base(behind) < m.base(r)+x.Size; behind++ {
		if slices.Contains(homes, behind) {
			return true
		}
	}
	return false
}

func (m *model) lost(homes []int) []int {
	if m.check() != api.OK {
		return nil
	}
	var lost []int
	all, _ := m.objects()
	for _, at := range all {
		from := at / m.region
		if m.states[from] != api.Old && m.states[from] != api.HumStart || m.among(from, homes) {
			continue
		}
		ptrs, _ := m.fields(at)
		for i, r := range ptrs {
			if r == 0 {
				continue
			}
			home := int(r-1) / m.region
			if m.among(home, homes) && !slices.Contains(m.known, [2]int{home, (at + 1 + i) / m.card}) {
				lost = append(lost, at+1+i)
			}
		}
	}
	return lost
}

// wantRows asks for each region's row, and those of no region.
func (m *model) wantRows(t *testing.T, h *heap.Heap) {
	t.Helper()
	for r := -3; r < len(m.states)+3; r++ {
		row, e := h.Row(r)
		want, f := m.row(r)
		if !slices.Equal(row, want) || e != f {
			t.Fatalf("Row(%d): %v, %v, not %v, %v", r, row, e, want, f)
		}
	}
}

func (m *model) wantObject(t *testing.T, h *heap.Heap, r api.Ref) {
	t.Helper()
	x, e := h.Object(r)
	want, f := m.object(r)
	if x != want || e != f {
		t.Fatalf("Object(%d): %+v, %v, not %+v, %v", r, x, e, want, f)
	}
}

func (m *model) wantShape(t *testing.T, h *heap.Heap) {
	t.Helper()
	if e := h.Check(); e != m.check() {
		t.Fatalf("Check: %v, not %v", e, m.check())
	}
	s, e := h.Shape()
	want, f := m.shape()
	if !slices.Equal(s, want) || e != f {
		t.Fatalf("Shape: %v, %v, not %v, %v", s, e, want, f)
	}
}

func (m *model) wantLost(t *testing.T, h *heap.Heap, homes ...int) {
	t.Helper()
	if l, want := h.Lost(homes), m.lost(homes); !slices.Equal(l, want) {
		t.Fatalf("Lost(%v): %v, not %v", homes, l, want)
	}
}

// all are the numbers below one.
func all(n int) []int {
	var list []int
	for i := range n {
		list = append(list, i)
	}
	return list
}

// wantAll asks for all that may be asked, but for the words' objects, which take long.
func (m *model) wantAll(t *testing.T, h *heap.Heap) {
	t.Helper()
	m.wantRows(t, h)
	m.wantShape(t, h)
	m.wantLost(t, h)
	for r := range m.states {
		m.wantLost(t, h, r)
		m.wantLost(t, h, slices.DeleteFunc(all(len(m.states)), func(n int) bool { return n == r })...)
	}
}

// told is all that a heap's calls tell of it.
type told struct {
	states                          []api.RegionState
	tops, tams, offs, dirty, marked []int
	cards                           [][]int
	ways                            [][]int
	handles                         [][]api.Ref
	rooms                           []int
	left                            [][3]int
	common, waiting                 int
	words                           []uint64
}

func tell(h *heap.Heap) told {
	var x told
	for r := range h.Geom.Regions {
		x.states = append(x.states, h.Regions.State(r))
		x.tops = append(x.tops, h.Regions.Top(r))
		x.tams = append(x.tams, h.Regions.Tams(r))
		x.cards = append(x.cards, h.Sets.Cards(r))
		var ways []int
		for source := range h.Geom.Regions {
			ways = append(ways, int(h.Sets.Way(r, source)))
		}
		x.ways = append(x.ways, ways)
	}
	for card := range h.Geom.Cards {
		at, e := h.Offs.First(card)
		if e != api.OK {
			at = -1
		}
		x.offs = append(x.offs, at)
	}
	x.dirty, x.marked = h.Cards.List(), h.Marks.List()
	for i, s := range h.Roots {
		x.handles = append(x.handles, s.List())
		x.rooms = append(x.rooms, s.Room())
		first, behind := h.Buffers[i].Rest()
		x.left = append(x.left, [3]int{first, behind, h.Buffers[i].Left()})
	}
	x.common, x.waiting = h.Queue.Len(), h.Queue.Waiting()
	for at := range h.Geom.Words {
		w, _ := h.Arena.Load(at)
		x.words = append(x.words, w)
	}
	return x
}

// same tells whether two heaps are told alike, empty lists and none being the same.
func (x told) same(y told) bool {
	return slices.Equal(x.states, y.states) && slices.Equal(x.tops, y.tops) && slices.Equal(x.tams, y.tams) &&
		slices.Equal(x.offs, y.offs) && slices.Equal(x.dirty, y.dirty) && slices.Equal(x.marked, y.marked) &&
		slices.EqualFunc(x.cards, y.cards, slices.Equal) && slices.EqualFunc(x.ways, y.ways, slices.Equal) &&
		slices.EqualFunc(x.handles, y.handles, slices.Equal) && slices.Equal(x.rooms, y.rooms) && slices.Equal(x.left, y.left) &&
		x.common == y.common && x.waiting == y.waiting && slices.Equal(x.words, y.words)
}

// wantTwin asks whether a heap is to the last bit what one is that was laid likewise, but for how often words were looked at.
func wantTwin(t *testing.T, h, twin *heap.Heap, what string) {
	t.Helper()
	if !tell(h).same(tell(twin)) {
		t.Fatalf("%s: a change that is told", what)
	}
	one, other := *h, *twin
	one.Arena, other.Arena = nil, nil
	if !reflect.DeepEqual(one, other) {
		t.Fatalf("%s: a change that isn't told", what)
	}
}

// dice give numbers by a rule.
type dice uint64

// below is a number from 0 on and below n.
func (d *dice) below(n int) int {
	*d = *d*6364136223846793005 + 1442695040888963407
	return int(uint64(*d) >> 33 % uint64(n))
}

// oneIn is true one time in n.
func (d *dice) oneIn(n int) bool {
	return d.below(n) == 0
}
