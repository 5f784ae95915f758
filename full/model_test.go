package full_test

import (
	"math"
	"slices"
	"testing"

	"gleaner/api"
	"gleaner/buffer"
	"gleaner/heap"
)

// The words of headers, by sums and products of layer 4's chapter.

func object(size, ptrs int) uint64 {
	return 1 + uint64(size)*4 + uint64(ptrs)*8388608
}

func aged(size, ptrs, age int) uint64 {
	return object(size, ptrs) + uint64(age)*17592186044416
}

func filler(size int) uint64 {
	return 2 + uint64(size)*4
}

func forward(size, to int) uint64 {
	return 3 + uint64(size)*4 + uint64(to)*8388608
}

// junk is no header's word, and leads to no word.
const junk = math.MaxUint64 - 3

// header takes a word apart by divisions; false, if it is none that may stand in a row.
func header(w uint64) (api.Header, bool) {
	const bits21 = 2097152
	kind, size, rest := api.HeadKind(w%4), int(w/4%bits21), w/4/bits21
	sized := size >= 1 && size <= 1048576
	switch kind {
	case 1:
		x := api.Header{Kind: kind, Size: size, Ptrs: int(rest % bits21), Age: int(rest / bits21 % 8)}
		return x, sized && x.Ptrs < size && rest/bits21/8 == 0
	case 2:
		return api.Header{Kind: kind, Size: size}, sized && rest == 0
	}
	return api.Header{}, false
}

// piece is a buffer's words: of those from from on and ahead of to so many are taken.
type piece struct {
	from, taken, to int
}

// model is the plainest heap: what stands in each word, what each region is, who has handles; and what the tables tell besides.
type model struct {
	c            api.Config
	region, card int // words
	words        []uint64
	states       []api.RegionState
	tops, tams   []int
	buffers      []piece
	handles      [][]uint64
	marks        []int    // words that are marked
	known        []int    // of each card the object that Offs knows of, or -1
	dirty        []int    // cards
	sets         [][2]int // homes and cards that they remember
	pushed       [][2]int // threads and cards
}

func blank(c api.Config) *model {
	m := &model{c: c, region: 1, card: 1}
	for range c.Shift {
		m.region *= 2
	}
	for range c.CardShift {
		m.card *= 2
	}
	m.words = make([]uint64, c.Regions*m.region)
	m.states = make([]api.RegionState, c.Regions)
	for r := range c.Regions {
		m.tops, m.tams = append(m.tops, m.base(r)), append(m.tams, m.base(r))
	}
	m.buffers, m.handles = make([]piece, c.Threads), make([][]uint64, c.Threads)
	for range len(m.words) / m.card {
		m.known = append(m.known, -1)
	}
	return m
}

// small is a configuration of so many regions of 64 words, in cards of 8.
func small(regions int) api.Config {
	return api.Config{Shift: 6, Regions: regions, CardShift: 3, Threads: 2, Roots: 20, Young: 1, Tenure: 1, Queue: 9}
}

func (m *model) base(r int) int {
	return r * m.region
}

func (m *model) clone() *model {
	n := *m
	n.words, n.states, n.tops, n.tams = slices.Clone(m.words), slices.Clone(m.states), slices.Clone(m.tops), slices.Clone(m.tams)
	n.buffers, n.handles, n.marks, n.known = slices.Clone(m.buffers), slices.Clone(m.handles), slices.Clone(m.marks), slices.Clone(m.known)
	n.dirty, n.sets, n.pushed = slices.Clone(m.dirty), slices.Clone(m.sets), slices.Clone(m.pushed)
	for i, l := range n.handles {
		n.handles[i] = slices.Clone(l)
	}
	return &n
}

// be makes regions from one on be of these states, with no words used.
func (m *model) be(r int, states ...api.RegionState) {
	copy(m.states[r:], states)
}

// put writes an object: where its references lead to, as far as they are told, and its data words.
func (m *model) put(at, size, ptrs int, fields ...uint64) {
	m.words[at] = object(size, ptrs)
	clear(m.words[at+1 : at+size])
	copy(m.words[at+1:at+size], fields)
	m.top(at, at+size)
}

func (m *model) fill(at, size int) {
	m.words[at] = filler(size)
	m.top(at, at+size)
}

// age has the object at an address be of an Age.
func (m *model) age(at, age int) {
	x, _ := header(m.words[at])
	m.words[at] = aged(x.Size, x.Ptrs, age)
}

// top has the region of what stands at an address, or all that a big object takes, be filled to another one.
func (m *model) top(at, to int) {
	r := at / m.region
	m.tops[r] = min(to, m.base(r+1))
	if m.states[r] != api.HumStart {
		return
	}
	for r++; r < len(m.states) && m.base(r) < to; r++ {
		m.tops[r] = min(to, m.base(r+1))
	}
}

// note has Offs know of what stands at an address.
func (m *model) note(at, size int) {
	for card := range m.known {
		if first := card * m.card; first >= at && first < at+size {
			m.known[card] = at
		}
	}
}

// noteAll has Offs know of all objects and fillers in rows of old and big regions.
func (m *model) noteAll() *model {
	for r, s := range m.states {
		if s != api.Old && s != api.HumStart {
			continue
		}
		for _, at := range m.row(r) {
			x, _ := header(m.words[at])
			m.note(at, x.Size)
		}
	}
	return m
}

// handle gives thread 0 a handle of what stands at each of these addresses.
func (m *model) handle(all ...int) *model {
	for _, at := range all {
		m.handles[0] = append(m.handles[0], lead(at))
	}
	return m
}

// remember has a region remember the cards of these fields.
func (m *model) remember(home int, fields ...int) *model {
	for _, field := range fields {
		m.sets = append(m.sets, [2]int{home, field / m.card})
	}
	return m
}

// rememberAll has each region remember all that leads into it from old and big regions.
func (m *model) rememberAll() *model {
	for _, field := range m.outward() {
		m.remember(m.target(m.words[field])/m.region, field)
	}
	return m
}

// outward are the references of objects in old and big regions that lead into another region than that which they lie in.
func (m *model) outward() []int {
	var all []int
	for _, at := range m.objects(api.Old, api.HumStart) {
		for k, w := range m.fields(at) {
			if to, field := m.target(w), at+1+k; to >= 0 && to/m.region != field/m.region {
				all = append(all, field)
			}
		}
	}
	return all
}

// lead is the reference to what stands at an address, as a word.
func lead(at int) uint64 {
	return uint64(at) + 1
}

// target is the word that a word leads to as a reference; -1, if none.
func (m *model) target(w uint64) int {
	if w == 0 || w > uint64(len(m.words)) {
		return -1
	}
	return int(w) - 1
}

// end is where the row of a region ends that isn't big.
func (m *model) end(r int) int {
	end, found := m.tops[r], false
	for _, p := range m.buffers {
		left := p.from + p.taken
		if left < p.to && left/m.region == r && (!found || left < end) {
			end, found = left, true
		}
	}
	return end
}

// row are the addresses of a region's headers, as far as there is a row.
func (m *model) row(r int) []int {
	switch m.states[r] {
	case api.Free, api.HumCont:
		return nil
	case api.HumStart:
		return []int{m.base(r)}
	}
	var row []int
	at, end := m.base(r), m.end(r)
	for at < end {
		x, is := header(m.words[at])
		if !is || x.Size > end-at {
			break
		}
		row = append(row, at)
		at += x.Size
	}
	return row
}

// isObject tells whether an object's header stands at an address.
func (m *model) isObject(at int) bool {
	x, is := header(m.words[at])
	return is && x.Kind == api.HeadObject
}

// objects are the addresses of those in all rows of these states, rising.
func (m *model) objects(states ...api.RegionState) []int {
	var all []int
	for r, s := range m.states {
		if !slices.Contains(states, s) {
			continue
		}
		for _, at := range m.row(r) {
			if m.isObject(at) {
				all = append(all, at)
			}
		}
	}
	return all
}

// fields are the words of the references of what stands at an address; a filler has none.
func (m *model) fields(at int) []uint64 {
	x, _ := header(m.words[at])
	return m.words[at+1 : at+1+x.Ptrs]
}

// list are the regions of these states, rising.
func (m *model) list(states ...api.RegionState) []int {
	var all []int
	for r, s := range m.states {
		if slices.Contains(states, s) {
			all = append(all, r)
		}
	}
	return all
}

// lay makes a heap by the layers' calls that is what the model is.
func (m *model) lay(t *testing.T) *heap.Heap {
	t.Helper()
	h, e := heap.New(m.c)
	if h == nil || e != api.OK {
		t.Fatalf("New(%+v): %v, %v", m.c, h, e)
	}
	m.layRegions(t, h)
	for at, w := range m.words {
		if w != 0 {
			h.Arena.Store(at, w)
		}
	}
	for i, p := range m.buffers {
		h.Buffers[i], e = buffer.New(p.from, p.to)
		if e != api.OK {
			t.Fatalf("a buffer of %d to %d: %v", p.from, p.to, e)
		}
		h.Buffers[i].Take(p.taken)
		for _, w := range m.handles[i] {
			if e := h.Roots[i].Push(api.Ref(w)); e != api.OK {
				t.Fatalf("a handle of the thread %d: %v", i, e)
			}
		}
	}
	for _, at := range m.marks {
		h.Marks.Put(at)
	}
	m.layCards(h)
	return h
}

// layRegions claims the regions from the first one on, free ones too, so that the lowest free one is always the next; these are released at last.
func (m *model) layRegions(t *testing.T, h *heap.Heap) {
	t.Helper()
	var free []int
	for r := 0; r < len(m.states); {
		s, first, e := m.states[r], 0, api.OK
		n := 1
		switch s {
		case api.Free:
			free = append(free, r)
			first, e = h.Regions.Claim(api.Old)
		case api.Eden, api.Survivor, api.Old:
			first, e = h.Regions.Claim(s)
			h.Regions.SetTop(r, m.tams[r])
			h.Regions.Mark(r)
			h.Regions.SetTop(r, m.tops[r])
		default:
			for r+n < len(m.states) && m.states[r+n] == api.HumCont {
				n++
			}
			first, e = h.Regions.Run(n, max(m.tops[r+n-1]-m.base(r), m.base(n-1)+1))
		}
		if first != r || e != api.OK {
			t.Fatalf("%d regions at %d: %d, %v", n, r, first, e)
		}
		r += n
	}
	for _, r := range free {
		h.Regions.Release(r)
	}
	for r, s := range m.states {
		if h.Regions.State(r) != s {
			t.Fatalf("region %d is %d, not %d", r, h.Regions.State(r), s)
		}
	}
}

func (m *model) layCards(h *heap.Heap) {
	// A Put reaches the cards ahead of the one that it is for, too: these have their turn behind it.
	for card := len(m.known) - 1; card >= 0; card-- {
		first := card * m.card
		if at := m.known[card]; at >= 0 {
			h.Offs.Put(at, first+1-at)
		} else {
			h.Offs.Drop(first, first+1)
		}
	}
	for _, card := range m.dirty {
		h.Cards.Dirty(card)
	}
	for _, s := range m.sets {
		h.Sets.Add(s[0], s[1])
	}
	for _, p := range m.pushed {
		h.Queue.Push(p[0], p[1])
	}
}

// read is the model of what a heap is now, as far as its words, regions, buffers and handles go.
func read(h *heap.Heap) *model {
	m := blank(h.Config)
	for at := range m.words {
		m.words[at], _ = h.Arena.Load(at)
	}
	for r := range m.states {
		m.states[r], m.tops[r], m.tams[r] = h.Regions.State(r), h.Regions.Top(r), h.Regions.Tams(r)
	}
	for i := range m.buffers {
		first, behind := h.Buffers[i].Rest()
		m.buffers[i] = piece{first, 0, behind}
		for _, r := range h.Roots[i].List() {
			m.handles[i] = append(m.handles[i], uint64(r))
		}
	}
	return m
}

// dice give numbers by a rule that is always the same.
type dice uint64

func (d *dice) below(n int) int {
	*d = *d*6364136223846793005 + 1442695040888963407
	return int(uint64(*d) >> 33 % uint64(n))
}

func (d *dice) oneIn(n int) bool {
	return d.below(n) == 0
}

// pick is one of a list.
func pick[T any](d *dice, list []T) T {
	return list[d.below(len(list))]
}

// shuffled is a list in an order by the rule.
func shuffled[T any](d *dice, list []T) []T {
	all := slices.Clone(list)
	for i := range all {
		k := i + d.below(len(all)-i)
		all[i], all[k] = all[k], all[i]
	}
	return all
}
