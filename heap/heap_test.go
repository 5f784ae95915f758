package heap_test

import (
	"math"
	"slices"
	"testing"

	"gleaner/api"
	"gleaner/buffer"
	"gleaner/heap"
)

// small is a configuration of 4 regions of 64 words, in cards of 8, and two threads with four handles each.
func small() api.Config {
	return api.Config{Shift: 6, Regions: 4, CardShift: 3, Threads: 2, Roots: 4, Young: 1}
}

// P14.1

// mayBe tells by layer 2's words whether a configuration may be.
func mayBe(c api.Config) bool {
	bounds := []struct{ n, low, high int }{
		{c.Shift, 6, 20}, {c.Regions, 2, 65536}, {c.CardShift, 3, c.Shift}, {c.Threads, 1, 64}, {c.Roots, 1, 64},
		{c.Refiners, 0, 8}, {c.Markers, 0, 8}, {c.Young, 1, c.Regions}, {c.Tenure, 0, 7}, {c.Queue, 0, 65536},
		{c.Stack, 0, 65536}, {c.Budget, 0, 4194304}, {c.Percent, 0, 100}, {c.Fail, 0, 65536},
	}
	for _, b := range bounds {
		if b.n < b.low || b.n > b.high {
			return false
		}
	}
	words := c.Regions
	for range c.Shift {
		words *= 2
	}
	return words <= 4194304
}

// wantFresh asks for a heap of which all is as New's promise says, or for none.
func wantFresh(t *testing.T, c api.Config) {
	t.Helper()
	h, e := heap.New(c)
	if !mayBe(c) {
		if h != nil || e != api.ErrConfig {
			t.Fatalf("New(%+v): %v, %v", c, h, e)
		}
		return
	}
	if h == nil || e != api.OK {
		t.Fatalf("New(%+v): %v, %v", c, h, e)
	}
	m := blank(c)
	g := h.Geom
	if h.Config != c || g.Words != len(m.words) || g.RegionWords != m.region || g.CardWords != m.card || g.Regions != c.Regions || g.Cards != len(m.words)/m.card || g.MaxSize != min(1048576, (c.Regions-1)*m.region) {
		t.Fatalf("New(%+v): %+v, %+v", c, h.Config, g)
	}
	wantFreshWords(t, h, m)
	wantFreshThreads(t, h)
	wantFreshRegions(t, h, m)
	wantFreshQueue(t, h)
}

func wantFreshWords(t *testing.T, h *heap.Heap, m *model) {
	t.Helper()
	if h.Arena.Len() != len(m.words) || h.Arena.Accesses() != 0 || h.Marks.Len() != len(m.words) || h.Marks.Next(0) != -1 {
		t.Fatalf("%+v: %d words, %d accesses, %d marks, the first %d", m.c, h.Arena.Len(), h.Arena.Accesses(), h.Marks.Len(), h.Marks.Next(0))
	}
	for at := range m.words {
		if w, e := h.Arena.Load(at); w != 0 || e != api.OK {
			t.Fatalf("%+v: the word %d: %d, %v", m.c, at, w, e)
		}
	}
	cards := len(m.words) / m.card
	for card := range cards {
		if _, e := h.Offs.First(card); e != api.ErrNone {
			t.Fatalf("%+v: Offs.First(%d): %v", m.c, card, e)
		}
	}
	if _, e := h.Offs.First(cards); e != api.ErrRange {
		t.Fatalf("%+v: Offs.First(%d): %v", m.c, cards, e)
	}
	if e := h.Offs.Put(len(m.words)-1, 1); e != api.OK {
		t.Fatalf("%+v: Offs.Put of the last word: %v", m.c, e)
	}
	if l := h.Cards.List(); len(l) != 0 {
		t.Fatalf("%+v: dirty: %v", m.c, l)
	}
	if is, e := h.Cards.Dirty(cards - 1); !is || e != api.OK {
		t.Fatalf("%+v: Dirty of the last card: %v, %v", m.c, is, e)
	}
	if is, e := h.Cards.Dirty(cards); is || e != api.ErrRange {
		t.Fatalf("%+v: Dirty behind the last card: %v, %v", m.c, is, e)
	}
}

func wantFreshRegions(t *testing.T, h *heap.Heap, m *model) {
	t.Helper()
	n := m.c.Regions
	for r := range n {
		if h.Regions.State(r) != api.Free || h.Regions.Top(r) != m.base(r) || h.Regions.Tams(r) != m.base(r) || len(h.Sets.Cards(r)) != 0 {
			t.Fatalf("%+v: region %d: %v, %d, %d, %v", m.c, r, h.Regions.State(r), h.Regions.Top(r), h.Regions.Tams(r), h.Sets.Cards(r))
		}
		if row, e := h.Row(r); len(row) != 0 || e != api.OK {
			t.Fatalf("%+v: Row(%d): %v, %v", m.c, r, row, e)
		}
	}
	if l := h.Regions.List(api.Free); !slices.Equal(l, all(n)) {
		t.Fatalf("%+v: free: %v", m.c, l)
	}
	cards := len(m.words) / m.card
	if is, e := h.Sets.Add(0, cards-1); !is || e != api.OK {
		t.Fatalf("%+v: Sets.Add(0, %d): %v, %v", m.c, cards-1, is, e)
	}
	if is, e := h.Sets.Add(n-1, 0); !is || e != api.OK {
		t.Fatalf("%+v: Sets.Add(%d, 0): %v, %v", m.c, n-1, is, e)
	}
	if _, e := h.Sets.Add(n, 0); e != api.ErrRange {
		t.Fatalf("%+v: Sets.Add(%d, 0): %v", m.c, n, e)
	}
	if _, e := h.Sets.Add(0, cards); e != api.ErrRange {
		t.Fatalf("%+v: Sets.Add(0, %d): %v", m.c, cards, e)
	}
	if r, e := h.Regions.Run(n, len(m.words)); r != 0 || e != api.OK {
		t.Fatalf("%+v: a run of all regions: %d, %v", m.c, r, e)
	}
}

func wantFreshThreads(t *testing.T, h *heap.Heap) {
	t.Helper()
	if len(h.Roots) != h.Config.Threads || len(h.Buffers) != h.Config.Threads {
		t.Fatalf("%+v: %d stacks, %d buffers", h.Config, len(h.Roots), len(h.Buffers))
	}
	if e := h.Check(); e != api.OK {
		t.Fatalf("%+v: Check: %v", h.Config, e)
	}
	if s, e := h.Shape(); !slices.Equal(s, make([]uint64, h.Config.Threads)) || e != api.OK {
		t.Fatalf("%+v: Shape: %v, %v", h.Config, s, e)
	}
	for i, s := range h.Roots {
		if h.Buffers[i] != (buffer.Buffer{}) || s.Len() != 0 || s.Room() != h.Config.Roots {
			t.Fatalf("%+v: thread %d: %+v, %d handles, room for %d", h.Config, i, h.Buffers[i], s.Len(), s.Room())
		}
		// A stack that were another thread's, too, would be full at its turn.
		for range h.Config.Roots {
			s.Push(7)
		}
	}
}

func wantFreshQueue(t *testing.T, h *heap.Heap) {
	t.Helper()
	if h.Queue.Len() != 0 || h.Queue.Waiting() != 0 {
		t.Fatalf("%+v: %d, %d cards wait", h.Config, h.Queue.Len(), h.Queue.Waiting())
	}
	last := h.Config.Threads - 1
	if _, e := h.Queue.Push(last+1, 0); e != api.ErrRange {
		t.Fatalf("%+v: a card of a thread %d: %v", h.Config, last+1, e)
	}
	pushed := (h.Config.Queue/4 + 1) * 4
	over := 0
	for range pushed {
		l, e := h.Queue.Push(last, 5)
		if e != api.OK {
			t.Fatalf("%+v: a card of the thread %d: %v", h.Config, last, e)
		}
		over += len(l)
	}
	if h.Queue.Len() != h.Config.Queue || over != pushed-h.Config.Queue {
		t.Fatalf("%+v: %d cards in common, %d over", h.Config, h.Queue.Len(), over)
	}
}

// Each field of a configuration at its bounds, about them and far from them.
func TestNewOfEachField(t *testing.T) {
	fields := []struct {
		low, high int
		of        func(c *api.Config) *int
	}{
		{6, 20, func(c *api.Config) *int { return &c.Shift }},
		{2, 65536, func(c *api.Config) *int { return &c.Regions }},
		{3, 6, func(c *api.Config) *int { return &c.CardShift }},
		{1, 64, func(c *api.Config) *int { return &c.Threads }},
		{1, 64, func(c *api.Config) *int { return &c.Roots }},
		{0, 8, func(c *api.Config) *int { return &c.Refiners }},
		{0, 8, func(c *api.Config) *int { return &c.Markers }},
		{1, 4, func(c *api.Config) *int { return &c.Young }},
		{0, 7, func(c *api.Config) *int { return &c.Tenure }},
		{0, 65536, func(c *api.Config) *int { return &c.Queue }},
		{0, 65536, func(c *api.Config) *int { return &c.Stack }},
		{0, 4194304, func(c *api.Config) *int { return &c.Budget }},
		{0, 100, func(c *api.Config) *int { return &c.Percent }},
		{0, 65536, func(c *api.Config) *int { return &c.Fail }},
	}
	for i, f := range fields {
		numbers := append([]int{f.low - 1, f.low, f.low + 1, f.high - 1, f.high, f.high + 1}, far...)
		for _, n := range numbers {
			c := small()
			*f.of(&c) = n
			if may := n >= f.low && n <= f.high; mayBe(c) != may {
				t.Fatalf("field %d: %d: %v", i, n, !may)
			}
			wantFresh(t, c)
		}
	}
}

// The least and the greatest configurations, and such as are too great by a product alone.
func TestNewAtTheEdges(t *testing.T) {
	least := api.Config{Shift: 6, Regions: 2, CardShift: 3, Threads: 1, Roots: 1, Young: 1}
	greatest := func(shift, regions, cardShift int) api.Config {
		return api.Config{Shift: shift, Regions: regions, CardShift: cardShift, Threads: 64, Roots: 64, Refiners: 8, Markers: 8, Young: regions, Tenure: 7, Queue: 65536, Stack: 65536, Budget: 4194304, Percent: 100, Fail: 65536}
	}
	for _, c := range []api.Config{
		{}, least, greatest(6, 65536, 3), greatest(6, 65536, 6), greatest(20, 4, 3), greatest(20, 4, 20), greatest(20, 2, 20), greatest(13, 512, 9),
		greatest(20, 5, 20), greatest(7, 32769, 3), greatest(7, 32768, 7), greatest(7, 32768, 8), greatest(6, 65537, 3),
		{Shift: 7, Regions: 3, CardShift: 5, Threads: 3, Roots: 2, Refiners: 1, Markers: 2, Young: 3, Tenure: 4, Queue: 5, Stack: 6, Budget: 7, Percent: 8, Fail: 9},
	} {
		wantFresh(t, c)
	}
}

// Two heaps, of one configuration or of two, have nothing to do with one another.
func TestHeapsSideBySide(t *testing.T) {
	m := stage()
	one, other, twin := m.lay(t), m.lay(t), m.lay(t)
	empty := blank(m.c).lay(t)
	disturb(one)
	wantTwin(t, other, twin, "beside another one")
	wantTwin(t, empty, blank(m.c).lay(t), "empty beside another one")
	m.wantAll(t, other)
}

// disturb changes something in each field of a heap.
func disturb(h *heap.Heap) {
	h.Retire()
	for r := range h.Geom.Regions {
		h.Free(r)
		h.Sets.Add(r, (r+1)%h.Geom.Regions*(h.Geom.RegionWords/h.Geom.CardWords))
	}
	h.Arena.Store(0, 99)
	h.Regions.Claim(api.Survivor)
	h.Offs.Put(0, h.Geom.Words)
	h.Cards.Dirty(1)
	h.Marks.Put(0)
	for i := range h.Roots {
		h.Queue.Push(i, 1)
		h.Roots[i].Pop()
		h.Buffers[i], _ = buffer.New(1, 2)
	}
}

// Each call of a nil heap, and of what a refused New gives: that it is nil is told ahead of any other fault.
func TestNilHeap(t *testing.T) {
	var nothing *heap.Heap
	refused, _ := heap.New(api.Config{})
	for _, h := range []*heap.Heap{nothing, refused} {
		for _, n := range append([]int{0, 1, 2, 3, 63, 64}, far...) {
			if row, e := h.Row(n); row != nil || e != api.ErrNil {
				t.Errorf("Row(%d): %v, %v", n, row, e)
			}
			if x, e := h.Object(api.Ref(n)); x != (api.Header{}) || e != api.ErrNil {
				t.Errorf("Object(%d): %v, %v", n, x, e)
			}
			if e := h.Free(n); e != api.ErrNil {
				t.Errorf("Free(%d): %v", n, e)
			}
			if l := h.Lost([]int{n}); l != nil {
				t.Errorf("Lost(%d): %v", n, l)
			}
		}
		h.Retire()
		s, e := h.Shape()
		if h.Check() != api.ErrNil || s != nil || e != api.ErrNil || h.Lost(nil) != nil {
			t.Errorf("Check %v, Shape %v, %v, Lost %v", h.Check(), s, e, h.Lost(nil))
		}
	}
}

// The stage

// stage is a heap of each kind of region. Thread 1 has 61 words left in the Eden region, thread 2 has taken all words of its buffer, thread 0 never had one.
func stage() *model {
	m := blank(api.Config{Shift: 6, Regions: 8, CardShift: 3, Threads: 3, Roots: 4, Young: 1, Queue: 2})
	m.be(0, api.Old, api.Eden, api.Survivor, api.HumStart, api.HumCont, api.Free, api.Old, api.Old)
	m.put(0, 3, 1, lead(64), 33)
	m.fill(3, 7)
	m.put(10, 2, 0, 77)
	m.put(64, 3, 1, lead(0), 5)
	m.tops[1] = 128
	m.put(128, 64, 63, lead(10))
	m.put(192, 100, 80, lead(10))
	m.words[263], m.words[272], m.words[273] = lead(128), lead(384), 9
	m.put(384, 5, 2, lead(192), lead(64), 1, 2)
	m.put(389, 1, 0)
	// No row has these, though they would be headers there: of a filler's words, an object's data, what a buffer has left, what lies behind a Top, behind a big object, in a free region.
	m.words[4], m.words[12], m.words[68], m.words[291], m.words[293], m.words[320], m.words[390] = object(2, 1), object(2, 0), object(60, 1), object(1, 0), object(27, 3), object(3, 1), aged(2, 1, 3)
	m.buffers[1], m.buffers[2] = piece{64, 3, 128}, piece{384, 6, 390}
	m.handles = [][]api.Ref{{385, 0}, {}, {11, 385, 1}}
	return m
}

// What stands on the stage, written out.
var (
	stageRows    = [][]int{{0, 3, 10}, {64}, {128}, {192}, {}, {}, {384, 389}, {}}
	stageObjects = []int{0, 10, 64, 128, 192, 384, 389}
	// The words that are no header in a row, but look like an object's: references and data words do, too.
	stageOthers = []int{1, 2, 4, 11, 12, 66, 68, 263, 272, 273, 291, 293, 320, 385, 386, 390}
)

// stageFields are the addresses of all references of objects in rows.
func stageFields() []int {
	fields := []int{1, 65}
	for at := 129; at <= 191; at++ {
		fields = append(fields, at)
	}
	for at := 193; at <= 272; at++ {
		fields = append(fields, at)
	}
	return append(fields, 385, 386)
}

func stageShape() []uint64 {
	shape := []uint64{2, 1, 0, 0, 3, 2, 1, 3}
	shape = append(shape, 2, 2, 4, 5, 1, 2) // 1, at 384
	shape = append(shape, 0, 1, 77)         // 2, at 10
	shape = append(shape, 1, 1, 5, 33)      // 3, at 0
	big := make([]uint64, 101)              // 4, at 192: two numbers ahead of 80 references and 19 words
	big[0], big[1], big[2], big[72], big[81], big[82], big[100] = 80, 19, 2, 6, 1, 9, object(1, 0)
	shape = append(shape, big...)
	shape = append(shape, 1, 1, 3, 5) // 5, at 64
	all := make([]uint64, 65)         // 6, at 128
	all[0], all[2] = 63, 2
	return append(shape, all...)
}

func TestStage(t *testing.T) {
	m := stage()
	h := m.lay(t)
	for r, want := range stageRows {
		if row, e := h.Row(r); !slices.Equal(row, want) || e != api.OK {
			t.Errorf("Row(%d): %v, %v", r, row, e)
		}
	}
	s, e := h.Shape()
	if h.Check() != api.OK || !slices.Equal(s, stageShape()) || e != api.OK {
		t.Errorf("Check %v, Shape %v, %v", h.Check(), s, e)
	}
	m.wantAll(t, h)
}

// Row, Object, Check, Shape and Lost change nothing, also of a heap that isn't sound; neither does a call that is refused.
func TestNothingIsChanged(t *testing.T) {
	sound, broken := stage(), stage()
	broken.words[1] = lead(1)
	broken.words[384] = 0
	for _, m := range []*model{sound, broken} {
		h, twin := m.lay(t), m.lay(t)
		for r := -2; r < 12; r++ {
			h.Row(r)
			wantTwin(t, h, twin, "Row")
			h.Lost([]int{r, r + 1, 4})
			wantTwin(t, h, twin, "Lost")
		}
		for r := api.Ref(0); r < 520; r += 3 {
			h.Object(r)
		}
		wantTwin(t, h, twin, "Object")
		h.Check()
		wantTwin(t, h, twin, "Check")
		h.Shape()
		wantTwin(t, h, twin, "Shape")
		for _, r := range append(none(8), 5) {
			h.Free(r)
		}
		wantTwin(t, h, twin, "Free that is refused")
	}
}

// A list that is given is new memory, and homes stay what they are, their spare room too.
func TestListsAreNew(t *testing.T) {
	m := stage()
	h := m.lay(t)
	for range 3 {
		m.wantAll(t, h)
		for r := range stageRows {
			row, _ := h.Row(r)
			spoil(row)
		}
		s, _ := h.Shape()
		spoil(s)
		homes := []int{1, 4, 1, -1, 9}
		l := h.Lost(homes[:3:5])
		if !slices.Equal(homes, []int{1, 4, 1, -1, 9}) || !slices.Equal(l, []int{1, 385, 386}) {
			t.Fatalf("%v, %v", homes, l)
		}
		spoil(l)
		if !slices.Equal(homes, []int{1, 4, 1, -1, 9}) {
			t.Fatalf("%v", homes)
		}
	}
}

// spoil makes each number of a list and of its spare room another one.
func spoil[N int | uint64](l []N) {
	l = l[:cap(l)]
	for i := range l {
		l[i] = ^l[i]
	}
}

// P14.2

func wantRow(t *testing.T, h *heap.Heap, r int, want []int, f api.Errno) {
	t.Helper()
	if row, e := h.Row(r); !slices.Equal(row, want) || e != f {
		t.Fatalf("Row(%d): %v, %v, not %v, %v", r, row, e, want, f)
	}
}

func TestRowOfNoRegion(t *testing.T) {
	for _, m := range []*model{stage(), blank(small())} {
		h := m.lay(t)
		for _, r := range none(len(m.states)) {
			wantRow(t, h, r, nil, api.ErrRange)
		}
		last := len(m.states) - 1
		wantRow(t, h, last, nil, api.OK)
	}
}

// filled are the states of regions that are filled word by word.
var filled = []api.RegionState{api.Eden, api.Survivor, api.Old}

// Each Top of a region with an object of each size: there is a row, if the object ends just at the Top, or nothing is filled.
func TestRowToTheTop(t *testing.T) {
	for _, s := range filled {
		for _, r := range []int{0, 2, 3} {
			m := blank(small())
			m.be(r, s)
			base := m.base(r)
			for size := 1; size <= 66; size++ {
				m.words[base] = object(size, size/2)
				for top := base; top <= base+64; top++ {
					m.tops[r] = top
					h := m.lay(t)
					switch {
					case top == base:
						wantRow(t, h, r, nil, api.OK)
					case top == base+size:
						wantRow(t, h, r, []int{base}, api.OK)
					default:
						wantRow(t, h, r, nil, api.ErrBroken)
					}
				}
			}
		}
	}
}

// letters are words such as a row may have, and such as it may not.
var letters = []uint64{
	0, object(1, 0), object(2, 1), aged(3, 0, 7), object(4, 3), object(5, 0), object(1048576, 0),
	filler(1), filler(2), filler(3), filler(1048576),
	forward(1, 0), forward(4, 64), 1, 2, 4, object(2, 2), object(1048577, 0), 1<<60 + filler(1), 1<<47 + object(1, 0), math.MaxUint64,
}

// Each row of up to four of these words.
func TestRowOfAllWords(t *testing.T) {
	m := blank(small())
	m.be(0, api.Old, api.Eden, api.Survivor)
	h := m.lay(t)
	for n := range 5 {
		for r := range 3 {
			m.tops[r] = m.base(r) + n
			h.Regions.SetTop(r, m.tops[r])
		}
		total := 1
		for range n {
			total *= len(letters)
		}
		for row := range total {
			r, rest := row%3, row
			for i := range n {
				m.words[m.base(r)+i] = letters[rest%len(letters)]
				h.Arena.Store(m.base(r)+i, letters[rest%len(letters)])
				rest /= len(letters)
			}
			want, f := m.row(r)
			wantRow(t, h, r, want, f)
		}
	}
}

// A buffer with words left from each word of a region on ends the row there, wherever the Top is, and those of other regions nowhere.
func TestRowToWhatABufferHasLeft(t *testing.T) {
	for _, s := range filled {
		m := blank(small())
		m.be(0, s, s, s)
		for r := range 3 {
			for i := range 64 {
				m.words[m.base(r)+i] = object(1, 0)
			}
			m.tops[r] = m.base(r + 1)
		}
		for left := range 64 {
			for _, top := range []int{128, 64 + left} {
				m.tops[1] = top
				for thread := range 2 {
					m.buffers = make([]piece, 2)
					m.buffers[thread] = piece{64, left, 128}
					h := m.lay(t)
					m.wantRows(t, h)
					var want []int
					for i := range left {
						want = append(want, 64+i)
					}
					wantRow(t, h, 1, want, api.OK)
				}
			}
		}
	}
}

// A buffer of which all is taken ends no row: that of its own region goes to the Top, and so does that of the region behind it.
func TestRowWithABufferThatHasNoneLeft(t *testing.T) {
	for _, s := range filled {
		m := blank(small())
		m.be(1, s, s)
		m.put(64, 60, 0)
		m.put(124, 4, 0)
		m.put(128, 7, 1)
		for _, p := range []piece{{64, 64, 128}, {64, 60, 124}, {100, 24, 124}, {64, 0, 64}, {128, 0, 128}, {130, 4, 134}} {
			for thread := range 2 {
				m.buffers = make([]piece, 2)
				m.buffers[thread] = p
				h := m.lay(t)
				wantRow(t, h, 1, []int{64, 124}, api.OK)
				wantRow(t, h, 2, []int{128}, api.OK)
			}
		}
	}
}

// Buffers of two threads, in one region or in two, and ones that are in no region of theirs.
func TestRowWithSeveralBuffers(t *testing.T) {
	m := blank(small())
	m.be(0, api.Eden, api.Old, api.HumStart)
	for at := range 128 {
		m.words[at] = object(1, 0)
	}
	m.tops[0], m.tops[1] = 64, 128
	m.put(128, 40, 0)
	for _, c := range []struct {
		one, other piece
		rows       [2]int
	}{
		{piece{0, 10, 64}, piece{64, 20, 128}, [2]int{10, 20}},
		{piece{64, 20, 128}, piece{0, 10, 64}, [2]int{10, 20}},
		{piece{0, 10, 30}, piece{30, 5, 64}, [2]int{10, 64}},
		{piece{30, 5, 64}, piece{0, 10, 30}, [2]int{10, 64}},
		{piece{0, 30, 30}, piece{30, 5, 64}, [2]int{35, 64}},
		{piece{30, 5, 64}, piece{0, 30, 30}, [2]int{35, 64}},
		{piece{64, 0, 128}, piece{0, 0, 64}, [2]int{0, 0}},
		{piece{0, 63, 64}, piece{64, 63, 128}, [2]int{63, 63}},
		{piece{0, 64, 64}, piece{64, 63, 128}, [2]int{64, 63}},
		// Of HumStart and of a free region, and such as there are none of: nothing of theirs is asked.
		{piece{128, 5, 192}, piece{192, 0, 256}, [2]int{64, 64}},
		{piece{256, 1, 320}, piece{1 << 22, 0, 1 << 22}, [2]int{64, 64}},
	} {
		m.buffers = []piece{c.one, c.other}
		h := m.lay(t)
		m.wantRows(t, h)
		for r, n := range c.rows {
			if row, e := h.Row(r); len(row) != n || e != api.OK {
				t.Errorf("%v, %v: Row(%d): %v, %v", c.one, c.other, r, row, e)
			}
		}
		wantRow(t, h, 2, []int{128}, api.OK)
	}
}

// An object of each size at a run's beginning, and the regions behind it of its own or not.
func TestRowOfABigObject(t *testing.T) {
	for pattern := range 27 {
		m := blank(small())
		rest := pattern
		m.be(0, api.HumStart)
		own := 1
		for r := 1; r < 4; r++ {
			m.be(r, []api.RegionState{api.HumCont, api.Old, api.HumStart}[rest%3])
			rest /= 3
			if own == r && m.states[r] == api.HumCont {
				own++
			}
		}
		for size := 1; size <= 300; size++ {
			m.words[0] = object(size, size/3)
			h := m.lay(t)
			if size <= own*64 {
				wantRow(t, h, 0, []int{0}, api.OK)
			} else {
				wantRow(t, h, 0, nil, api.ErrBroken)
			}
			m.wantRows(t, h)
		}
		m.words[0] = object(1048576, 0)
		wantRow(t, m.lay(t), 0, nil, api.ErrBroken)
	}
}

// A run that ends with the last region: behind it there is none.
func TestRowOfABigObjectAtTheEnd(t *testing.T) {
	for first := range 4 {
		m := blank(small())
		m.be(first, api.HumStart)
		m.be(first+1, []api.RegionState{api.HumCont, api.HumCont, api.HumCont}...)
		room := 256 - m.base(first)
		for size := room - 70; size < room+70; size++ {
			m.words[m.base(first)] = object(size, 0)
			h := m.lay(t)
			m.wantRows(t, h)
			if size < 1 || size > room {
				wantRow(t, h, first, nil, api.ErrBroken)
			} else {
				wantRow(t, h, first, []int{m.base(first)}, api.OK)
			}
		}
	}
}

// What begins a HumStart must be an object: no filler, no forward, no other word. What lies behind it in its regions is nothing of the row's.
func TestRowOfWhatIsNoBigObject(t *testing.T) {
	m := blank(small())
	m.be(1, api.HumStart, api.HumCont)
	for _, w := range append([]uint64{filler(40), filler(64), filler(70), filler(128), forward(70, 0), forward(40, 64)}, letters...) {
		m.words[64] = w
		h := m.lay(t)
		x, is := header(w)
		if is && x.Kind == api.HeadObject && x.Size <= 128 {
			wantRow(t, h, 1, []int{64}, api.OK)
		} else {
			wantRow(t, h, 1, nil, api.ErrBroken)
			if e := h.Check(); e != api.ErrBroken {
				t.Errorf("the word %d: Check: %v", w, e)
			}
		}
	}
	for _, size := range []int{3, 40, 63, 64, 70} {
		m.words[64] = object(size, 0)
		for _, w := range []uint64{0, 5, object(2, 0), object(2, 1), filler(10), math.MaxUint64} {
			m.words[64+size] = w
			h := m.lay(t)
			wantRow(t, h, 1, []int{64}, api.OK)
			wantRow(t, h, 2, nil, api.OK)
			if e := h.Check(); e != api.OK {
				t.Errorf("%d behind %d words: Check: %v", w, size, e)
			}
			// It is no object of the heap's.
			h.Roots[0].Push(api.Ref(lead(64 + size)))
			if e := h.Check(); e != api.ErrBroken {
				t.Errorf("a handle to %d behind %d words: Check: %v", w, size, e)
			}
		}
		m.words[64+size] = 0
	}
}

// Regions that are free, and those of a run behind the first, have empty rows, whatever their words are.
func TestRowOfNone(t *testing.T) {
	for _, w := range letters {
		m := blank(small())
		m.be(0, api.Free, api.HumStart, api.HumCont, api.Free)
		m.put(64, 128, 0)
		m.words[0], m.words[128], m.words[192] = w, w, w
		m.buffers[0], m.buffers[1] = piece{0, 3, 64}, piece{128, 3, 192}
		h := m.lay(t)
		for _, r := range []int{0, 2, 3} {
			wantRow(t, h, r, nil, api.OK)
		}
	}
	// A HumCont whose run's first region is something else now, or free.
	for _, s := range []api.RegionState{api.Free, api.Old, api.Eden} {
		m := blank(small())
		m.be(0, s, api.HumCont, api.HumCont, api.Survivor)
		m.wantAll(t, m.lay(t))
	}
}

// Each reference that leads to a word of the stage, and such as lead to none.
func TestObjectOfEachWord(t *testing.T) {
	m := stage()
	h := m.lay(t)
	for at := range m.words {
		x, e := h.Object(api.Ref(at + 1))
		if is := slices.Contains(stageObjects, at) || slices.Contains(stageOthers, at); is != (e == api.OK) {
			t.Errorf("Object at %d: %+v, %v", at, x, e)
		}
		m.wantObject(t, h, api.Ref(at+1))
	}
	for r, want := range map[api.Ref]api.Header{
		1: {Kind: api.HeadObject, Size: 3, Ptrs: 1}, 129: {Kind: api.HeadObject, Size: 64, Ptrs: 63}, 193: {Kind: api.HeadObject, Size: 100, Ptrs: 80},
		390: {Kind: api.HeadObject, Size: 1}, 391: {Kind: api.HeadObject, Size: 2, Ptrs: 1, Age: 3},
	} {
		if x, e := h.Object(r); x != want || e != api.OK {
			t.Errorf("Object(%d): %+v, %v", r, x, e)
		}
	}
	for _, n := range append(none(512), -1) {
		want := api.ErrRange
		if api.Ref(n)+1 == 0 {
			want = api.ErrNilRef
		}
		if x, e := h.Object(api.Ref(n) + 1); x != (api.Header{}) || e != want {
			t.Errorf("Object(%d + 1): %+v, %v", n, x, e)
		}
	}
	for _, r := range []api.Ref{513, math.MaxUint64, 1 << 63, 1<<63 + 1, 1<<32 + 1} {
		if x, e := h.Object(r); x != (api.Header{}) || e != api.ErrRange {
			t.Errorf("Object(%d): %+v, %v", r, x, e)
		}
	}
	if x, e := h.Object(0); x != (api.Header{}) || e != api.ErrNilRef {
		t.Errorf("Object(0): %+v, %v", x, e)
	}
}

// Words of each kind and size, and such with each bit turned, at the first and the last word.
func TestObjectOfAllWords(t *testing.T) {
	m := blank(small())
	h := m.lay(t)
	for _, at := range []int{0, 100, 255} {
		for _, word := range append([]uint64{object(1048576, 1048575), object(256, 255), object(257, 0), aged(9, 4, 5), forward(9, 4194303)}, letters...) {
			for bit := range 65 {
				w := word
				if bit < 64 {
					w ^= 1 << bit
				}
				m.words[at] = w
				h.Arena.Store(at, w)
				m.wantObject(t, h, api.Ref(lead(at)))
			}
		}
	}
}

// P14.3

func wantCheck(t *testing.T, h *heap.Heap, want api.Errno, what ...any) {
	t.Helper()
	if e := h.Check(); e != want {
		t.Fatalf("%v: Check: %v, not %v", what, e, want)
	}
	if s, e := h.Shape(); e != want || (len(s) == 0) != (e != api.OK) {
		t.Fatalf("%v: Shape: %v, %v, not %v", what, s, e, want)
	}
	if l := h.Lost(all(h.Geom.Regions)); len(l) != 0 {
		t.Fatalf("%v: Lost: %v", what, l)
	}
}

// broken is OK, if something may be, else ErrBroken.
func broken(may bool) api.Errno {
	if may {
		return api.OK
	}
	return api.ErrBroken
}

// Each word of the stage is made such as is neither a header nor a reference: it matters of headers in rows and of references alone.
func TestCheckOfEachWord(t *testing.T) {
	m := stage()
	h := m.lay(t)
	matter := stageFields()
	for _, row := range stageRows {
		matter = append(matter, row...)
	}
	for at, was := range m.words {
		for _, w := range []uint64{lead(1), math.MaxUint64, 1<<63 + 4} {
			h.Arena.Store(at, w)
			wantCheck(t, h, broken(!slices.Contains(matter, at)), at, w)
		}
		h.Arena.Store(at, was)
	}
	wantCheck(t, h, api.OK)
}

// strange are words that lead to no word.
func strange() []uint64 {
	list := []uint64{513, 514, 1 << 63, 1<<63 + 1, math.MaxUint64, math.MaxUint64 - 1}
	for _, n := range none(512) {
		if n != -1 {
			list = append(list, uint64(n)+1)
		}
	}
	return list
}

// Each reference of the stage leads to each word, and to none: only nil and objects in rows may be led to.
func TestCheckOfEachReference(t *testing.T) {
	m := stage()
	h := m.lay(t)
	for _, field := range []int{1, 65, 129, 160, 191, 193, 255, 256, 272, 385, 386} {
		for r := uint64(0); r <= 512; r++ {
			h.Arena.Store(field, r)
			wantCheck(t, h, broken(r == 0 || slices.Contains(stageObjects, int(r)-1)), field, r)
		}
		for _, r := range strange() {
			h.Arena.Store(field, r)
			wantCheck(t, h, api.ErrBroken, field, r)
		}
		h.Arena.Store(field, m.words[field])
		wantCheck(t, h, api.OK, field)
	}
	for _, field := range stageFields() {
		for _, r := range []uint64{0, lead(389), lead(390), lead(3), lead(320)} {
			h.Arena.Store(field, r)
			wantCheck(t, h, broken(r == 0 || r == lead(389)), field, r)
		}
		h.Arena.Store(field, m.words[field])
	}
}

// Each handle likewise.
func TestCheckOfEachHandle(t *testing.T) {
	m := stage()
	h := m.lay(t)
	h.Roots[1].Push(0)
	for thread, n := range []int{2, 1, 3} {
		for i := range n {
			was, _ := h.Roots[thread].At(i)
			for r := uint64(0); r <= 512; r++ {
				h.Roots[thread].Set(i, api.Ref(r))
				wantCheck(t, h, broken(r == 0 || slices.Contains(stageObjects, int(r)-1)), thread, i, r)
			}
			for _, r := range strange() {
				h.Roots[thread].Set(i, api.Ref(r))
				wantCheck(t, h, api.ErrBroken, thread, i, r)
			}
			h.Roots[thread].Set(i, was)
		}
	}
	wantCheck(t, h, api.OK)
}

// A reference into what a buffer has left, and one to what is taken of it.
func TestCheckAboutABuffer(t *testing.T) {
	m := blank(small())
	m.be(0, api.Old, api.Eden)
	m.put(0, 2, 1, lead(66))
	m.put(64, 2, 0)
	m.put(66, 2, 0)
	m.tops[1] = 128
	for taken := range 65 {
		m.buffers[1] = piece{64, taken, 128}
		h := m.lay(t)
		// With all taken the row goes to the Top, where nothing stands.
		wantCheck(t, h, broken(taken == 4), taken)
	}
}

// The shapes of heaps, written out.
func TestShapes(t *testing.T) {
	for i, c := range []struct {
		m    *model
		want []uint64
	}{
		{empty(), []uint64{0, 0}},
		{ring(), []uint64{1, 1, 1, 2, 1, 0, 2, 1, 0, 3, 1, 0, 1}},
		{chain(), []uint64{2, 1, 2, 3, 3, 0, 3, 1, 1, 4, 8, 0, 1, 7, 2, 1, 0, 5, 4, 2, 1, 0, 5, 4, 1, 3, 0, 0, 0, 0}},
		{alone(), []uint64{0, 0}},
		{nils(), []uint64{2, 0, 0, 1, 0}},
		{lookalike(), []uint64{1, 1, 0, 0, 3, lead(0), object(2, 1), math.MaxUint64}},
	} {
		h := c.m.lay(t)
		s, e := h.Shape()
		if !slices.Equal(s, c.want) || e != api.OK || h.Check() != api.OK {
			t.Errorf("heap %d: Shape %v, %v, Check %v", i, s, e, h.Check())
		}
		c.m.wantAll(t, h)
	}
}

// empty has regions of each kind that may be empty, and no objects.
func empty() *model {
	m := blank(small())
	m.be(0, api.Eden, api.Survivor, api.Old, api.Free)
	return m
}

// ring is three objects, each in another region, that lead to one another.
func ring() *model {
	m := blank(small())
	m.be(0, api.Old, api.Eden, api.Survivor)
	m.put(0, 2, 1, lead(128))
	m.put(128, 2, 1, lead(64))
	m.put(64, 2, 1, lead(0))
	m.handles = [][]api.Ref{{1}, {129}}
	return m
}

// chain is objects that are come to by the handles of two threads, and then by one another, some by several, in another order than they lie; one by none.
func chain() *model {
	m := blank(small())
	m.be(0, api.Old, api.Eden, api.Old)
	m.put(0, 2, 0, 7)
	m.put(2, 4, 2, 0, lead(6), 4)
	m.put(6, 5, 1)
	m.put(11, 3, 1, lead(0))
	m.put(64, 4, 2, 0, lead(6), 4)
	m.put(128, 3, 1, lead(2), 8)
	m.handles = [][]api.Ref{{129, 1}, {65, 0, 65}}
	return m
}

// alone is objects that lead to one another, and to which no handle leads.
func alone() *model {
	m := ring()
	m.handles = [][]api.Ref{{}, {}}
	return m
}

// nils is handles that are nil.
func nils() *model {
	m := ring()
	m.handles = [][]api.Ref{{0, 0}, {0}}
	return m
}

// lookalike is an object whose data words look like a reference, like a header, and like nothing.
func lookalike() *model {
	m := blank(small())
	m.be(0, api.Old)
	m.put(0, 4, 0, lead(0), object(2, 1), math.MaxUint64)
	m.handles = [][]api.Ref{{1}, {}}
	return m
}

// A long chain, which is come to by its first object alone, and great objects.
func TestShapeOfGreatHeaps(t *testing.T) {
	m := blank(api.Config{Shift: 12, Regions: 80, CardShift: 9, Threads: 1, Roots: 1, Young: 1})
	n := 80 * 1024
	want := []uint64{1, 1}
	for i := range n {
		m.states[i/1024] = filled[i%3]
		m.put(i*4, 3, 1, lead((i*4+4)%(n*4)), uint64(i))
		m.fill(i*4+3, 1)
		want = append(want, 1, 1, uint64((i+1)%n)+1, uint64(i))
	}
	m.handles[0] = []api.Ref{1}
	h := m.lay(t)
	if s, e := h.Shape(); !slices.Equal(s, want) || e != api.OK {
		t.Errorf("%d numbers, %v", len(s), e)
	}
	c := api.Config{Shift: 20, Regions: 4, CardShift: 9, Threads: 1, Roots: 2, Young: 1}
	m = blank(c)
	m.be(0, api.HumStart, api.Old, api.HumStart)
	m.put(0, 1048576, 1048575, lead(2<<20))
	m.put(1<<20, 2, 1, lead(0))
	m.put(2<<20, 1048576, 0, 3)
	m.words[1048575], m.words[3<<20-1] = lead(1<<20), 4
	m.handles[0] = []api.Ref{1}
	h = m.lay(t)
	s, e := h.Shape()
	// Thread 0 has one handle; the first object leads to the second and the third one, the third one to the first.
	great := slices.Concat([]uint64{1, 1, 1048575, 0}, make([]uint64, 1048575), []uint64{0, 1048575}, make([]uint64, 1048575), []uint64{1, 0, 1})
	great[4], great[1048578], great[1048581], great[2*1048577+1] = 2, 3, 3, 4
	if !slices.Equal(s, great) || e != api.OK {
		t.Errorf("%d numbers, %v", len(s), e)
	}
	if l := h.Lost([]int{0}); !slices.Equal(l, []int{1<<20 + 1}) {
		t.Errorf("Lost: %v", l)
	}
	if l := h.Lost([]int{1, 2}); !slices.Equal(l, []int{1, 1048575}) {
		t.Errorf("Lost: %v", l)
	}
}

// P14.4

func wantLost(t *testing.T, h *heap.Heap, want []int, homes ...int) {
	t.Helper()
	if l := h.Lost(homes); !slices.Equal(l, want) {
		t.Errorf("Lost(%v): %v, not %v", homes, l, want)
	}
}

// All homes of the stage, one by one and together: HumCont counts as its HumStart, Eden and Survivor tell nothing.
func TestLost(t *testing.T) {
	h := stage().lay(t)
	wantLost(t, h, nil)
	wantLost(t, h, []int{193}, 0)
	wantLost(t, h, []int{1, 386}, 1)
	wantLost(t, h, []int{263}, 2)
	wantLost(t, h, []int{385}, 3)
	wantLost(t, h, []int{385}, 4)
	wantLost(t, h, nil, 5)
	wantLost(t, h, []int{272}, 6)
	wantLost(t, h, nil, 7)
	wantLost(t, h, []int{1, 263, 272}, 1, 2, 6, 1)
	wantLost(t, h, []int{1, 263, 386}, 2, 1)
	wantLost(t, h, []int{1, 272}, 6, 1)
	wantLost(t, h, []int{193, 386}, 0, 1)
	wantLost(t, h, []int{385}, 0, 3)
	wantLost(t, h, []int{385}, 4, 0)
	wantLost(t, h, []int{385}, 4, 3, 4)
	wantLost(t, h, nil, 4, 6)
	wantLost(t, h, []int{1}, 4, 6, 1)
	wantLost(t, h, []int{193, 263, 272}, 2, 6, 0, 2)
	wantLost(t, h, nil, 0, 1, 2, 3, 4, 5, 6, 7)
	wantLost(t, h, nil, 0, 6, 3, 1, 2)
	wantLost(t, h, nil, 0, 6, 4, 1, 2)
}

// Homes that are no regions are none, beside others and alone.
func TestLostOfNoRegions(t *testing.T) {
	h := stage().lay(t)
	for _, n := range none(8) {
		wantLost(t, h, nil, n)
		wantLost(t, h, []int{1, 386}, n, 1)
		wantLost(t, h, []int{385}, 4, n, n)
	}
	wantLost(t, h, nil, none(8)...)
	wantLost(t, h, []int{263}, append(none(8), 2)...)
}

// A home that is told many times.
func TestLostOfManyHomes(t *testing.T) {
	h := stage().lay(t)
	wantLost(t, h, []int{193}, make([]int, 100000)...)
	many := make([]int, 100000)
	for i := range many {
		many[i] = i%2*3 + 1
	}
	wantLost(t, h, []int{1, 385, 386}, many...)
}

// A card that is remembered for a region tells of its references into that one alone.
func TestLostOfRememberedCards(t *testing.T) {
	add := func(known ...[2]int) *heap.Heap {
		m := stage()
		m.known = known
		h := m.lay(t)
		m.wantAll(t, h)
		return h
	}
	// The fields 385 and 386 lie in the card 48, 193 in 24, 263 in 32, 272 in 34, 1 in 0.
	h := add([2]int{3, 48})
	wantLost(t, h, nil, 3)
	wantLost(t, h, nil, 4)
	wantLost(t, h, []int{1, 386}, 1)
	wantLost(t, h, []int{1, 386}, 1, 3)
	h = add([2]int{1, 48})
	wantLost(t, h, []int{385}, 3)
	wantLost(t, h, []int{1}, 1)
	wantLost(t, h, []int{1, 385}, 1, 4)
	h = add([2]int{1, 48}, [2]int{1, 0}, [2]int{0, 24}, [2]int{2, 32}, [2]int{6, 34}, [2]int{3, 48})
	for r := range 8 {
		wantLost(t, h, nil, r)
		wantLost(t, h, nil, r, (r+1)%8, (r+3)%8)
	}
	// Other cards than those of the fields, and what a HumCont's own set has.
	h = add([2]int{1, 1}, [2]int{1, 47}, [2]int{1, 49}, [2]int{0, 25}, [2]int{0, 23}, [2]int{2, 24}, [2]int{2, 33}, [2]int{6, 33}, [2]int{6, 32}, [2]int{4, 48}, [2]int{3, 0})
	wantLost(t, h, []int{193}, 0)
	wantLost(t, h, []int{1, 386}, 1)
	wantLost(t, h, []int{263}, 2)
	wantLost(t, h, []int{385}, 3)
	wantLost(t, h, []int{385}, 4)
	wantLost(t, h, []int{272}, 6)
}

// A region whose cards are remembered finely, and then coarsely: then each of its cards is.
func TestLostOfCoarseCards(t *testing.T) {
	h := stage().lay(t)
	for card := 49; card < 55; card++ {
		h.Sets.Add(1, card)
	}
	wantLost(t, h, []int{1, 386}, 1)
	for _, source := range []int{2, 5, 7} {
		for i := range 5 {
			h.Sets.Add(1, source*8+i)
		}
	}
	wantLost(t, h, []int{1, 386}, 1)
	for i := range 5 {
		h.Sets.Add(1, 1+i)
	}
	wantLost(t, h, []int{1}, 1)
	wantLost(t, h, []int{1, 385}, 1, 3)
	h.Sets.Add(1, 0)
	wantLost(t, h, nil, 1)
}

// The same object in a region of each state: only those of Old and of HumStart tell; references into each state are told.
func TestLostOfEachState(t *testing.T) {
	for _, from := range []api.RegionState{api.Eden, api.Survivor, api.Old, api.HumStart} {
		for _, to := range []api.RegionState{api.Eden, api.Survivor, api.Old, api.HumStart} {
			m := blank(small())
			m.be(0, to, from)
			m.put(0, 40, 1)
			m.put(64, 40, 3, lead(64), lead(0))
			m.words[1] = lead(64)
			h := m.lay(t)
			var want []int
			if from == api.Old || from == api.HumStart {
				want = []int{66}
			}
			wantLost(t, h, want, 0)
			wantLost(t, h, nil, 0, 1)
			wantLost(t, h, nil, 2, 3)
			m.wantAll(t, h)
		}
	}
}

// Of a heap that isn't sound nothing is lost, wherever it isn't.
func TestLostOfBrokenHeaps(t *testing.T) {
	for _, breach := range []func(m *model){
		func(m *model) { m.words[10] = 0 },
		func(m *model) { m.words[65] = lead(1) },
		func(m *model) { m.words[191] = lead(390) },
		func(m *model) { m.words[386] = 600 },
		func(m *model) { m.handles[1] = []api.Ref{0, 5} },
		func(m *model) { m.tops[7]++ },
		func(m *model) { m.buffers[1].taken++ },
		func(m *model) { m.words[192] = filler(100) },
		func(m *model) { m.words[192] = object(129, 1) },
	} {
		m := stage()
		breach(m)
		h := m.lay(t)
		wantCheck(t, h, api.ErrBroken)
		for r := range 8 {
			wantLost(t, h, nil, r)
		}
	}
}

// Big objects that lead to one another, and to themselves, over the regions that they take.
func TestLostOfBigObjects(t *testing.T) {
	m := blank(api.Config{Shift: 6, Regions: 9, CardShift: 3, Threads: 1, Roots: 1, Young: 1})
	m.be(0, api.HumStart, api.HumCont, api.HumCont, api.HumStart, api.HumCont, api.Old, api.HumStart, api.HumCont, api.HumCont)
	m.put(0, 192, 191)
	m.put(192, 65, 64)
	m.put(320, 2, 1, lead(192))
	m.put(384, 180, 1, lead(0))
	m.words[63], m.words[64], m.words[128], m.words[191] = lead(192), lead(320), lead(0), lead(384)
	m.words[255], m.words[256] = lead(192), lead(0)
	h := m.lay(t)
	for _, r := range []int{0, 1, 2} {
		wantLost(t, h, []int{256, 385}, r)
		wantLost(t, h, []int{256}, r, 8)
		wantLost(t, h, []int{321, 385}, 3, r)
		wantLost(t, h, []int{385}, r, 4, 5)
	}
	for _, r := range []int{3, 4} {
		wantLost(t, h, []int{63, 321}, r)
		wantLost(t, h, []int{63, 64}, 5, r)
	}
	wantLost(t, h, []int{64}, 5)
	for _, r := range []int{6, 7, 8} {
		wantLost(t, h, []int{191}, r)
		wantLost(t, h, []int{256}, r, 1)
	}
	m.wantAll(t, h)
	// The cards 7 and 23 lie in the first object's first and last region.
	h.Sets.Add(3, 7)
	h.Sets.Add(6, 23)
	h.Sets.Add(7, 8)
	wantLost(t, h, []int{321}, 4)
	wantLost(t, h, nil, 7)
}

// P14.5

// Words that are left are dropped, and the Top of their region is the first of them; no other Top is another one.
func TestRetire(t *testing.T) {
	m := stage()
	h, twin := m.lay(t), m.lay(t)
	for range 3 {
		h.Retire()
		for i, b := range h.Buffers {
			if first, behind := b.Rest(); first != 0 || behind != 0 || b.Left() != 0 {
				t.Errorf("thread %d: %d, %d, %d left", i, first, behind, b.Left())
			}
		}
		if h.Regions.Top(1) != 67 {
			t.Errorf("Top: %d", h.Regions.Top(1))
		}
		twin.Regions.SetTop(1, 67)
		clear(twin.Buffers)
		wantTwin(t, h, twin, "Retire")
		wantRow(t, h, 1, []int{64}, api.OK)
		if s, e := h.Shape(); !slices.Equal(s, stageShape()) || e != api.OK {
			t.Errorf("Shape: %v, %v", s, e)
		}
	}
}

// Buffers of two threads in regions of each state, with each number of words left.
func TestRetireOfEachRest(t *testing.T) {
	for _, s := range filled {
		for taken := range 65 {
			for thread := range 2 {
				m := blank(small())
				m.be(0, s, s, s, s)
				for r := range 4 {
					m.tops[r] = m.base(r + 1)
				}
				m.buffers[thread], m.buffers[1-thread] = piece{128, taken, 192}, piece{64, 64 - taken, 128}
				h := m.lay(t)
				h.Retire()
				if got, want := [4]int{h.Regions.Top(0), h.Regions.Top(1), h.Regions.Top(2), h.Regions.Top(3)}, [4]int{64, 128 - taken, 128 + taken, 256}; got != want {
					t.Errorf("%d taken by %d: Tops %v, not %v", taken, thread, got, want)
				}
				if h.Buffers[0] != (buffer.Buffer{}) || h.Buffers[1] != (buffer.Buffer{}) {
					t.Errorf("%d taken by %d: %v", taken, thread, h.Buffers)
				}
			}
		}
	}
}

// Two buffers in one region: its row ends where it did, whichever thread has the first words. Buffers in regions that aren't filled word by word, and in none, are dropped, and no Top is another one.
func TestRetireOfStrangeBuffers(t *testing.T) {
	m := blank(small())
	m.be(0, api.Eden, api.Old, api.HumStart)
	m.tops[0], m.tops[1] = 64, 70
	m.put(128, 40, 0)
	for _, c := range []struct {
		one, other piece
		tops       [4]int
	}{
		{piece{0, 10, 30}, piece{30, 5, 64}, [4]int{10, 70, 168, 192}},
		{piece{30, 5, 64}, piece{0, 10, 30}, [4]int{10, 70, 168, 192}},
		{piece{0, 30, 30}, piece{30, 5, 64}, [4]int{35, 70, 168, 192}},
		{piece{0, 64, 64}, piece{64, 64, 128}, [4]int{64, 70, 168, 192}},
		{piece{0, 63, 64}, piece{64, 0, 70}, [4]int{63, 64, 168, 192}},
		{piece{128, 5, 192}, piece{192, 3, 256}, [4]int{64, 70, 168, 192}},
		{piece{256, 0, 300}, piece{1<<22 - 1, 0, 1 << 22}, [4]int{64, 70, 168, 192}},
	} {
		m.buffers = []piece{c.one, c.other}
		h := m.lay(t)
		h.Retire()
		if got := [4]int{h.Regions.Top(0), h.Regions.Top(1), h.Regions.Top(2), h.Regions.Top(3)}; got != c.tops {
			t.Errorf("%v, %v: Tops %v, not %v", c.one, c.other, got, c.tops)
		}
		if h.Buffers[0] != (buffer.Buffer{}) || h.Buffers[1] != (buffer.Buffer{}) {
			t.Errorf("%v, %v: %v", c.one, c.other, h.Buffers)
		}
	}
}

// lived is the stage with something known of each region and card: what objects the cards have, dirty cards, cards in sets, marks, Tams, cards that wait.
func lived(t *testing.T) *heap.Heap {
	t.Helper()
	m := stage()
	h := m.lay(t)
	for r := range m.states {
		h.Offs.Put(m.base(r), 64)
		h.Regions.Mark(r)
		h.Marks.Fill(m.base(r), m.base(r)+64, true)
		h.Marks.Drop(m.base(r) + r + 3)
		for source := range m.states {
			for i := range source + 1 {
				h.Sets.Add(r, source*8+(i+r)%8)
			}
		}
	}
	for card := range h.Geom.Cards {
		h.Cards.Dirty(card)
	}
	for card := range 7 {
		h.Queue.Push(card%3, card*9)
	}
	h.Queue.Push(0, 50)
	h.Queue.Push(0, 51)
	return h
}

// freed is what is told of a heap when a region of so many words and cards is freed, by the promise's words.
func (x told) freed(r, words, cards int) told {
	y := x
	y.states, y.tops, y.tams, y.offs = slices.Clone(x.states), slices.Clone(x.tops), slices.Clone(x.tams), slices.Clone(x.offs)
	y.states[r], y.tops[r], y.tams[r] = api.Free, r*words, r*words
	y.cards, y.ways = slices.Clone(x.cards), slices.Clone(x.ways)
	inRegion := func(card int) bool { return card/cards == r }
	for home := range y.cards {
		y.cards[home] = slices.DeleteFunc(slices.Clone(x.cards[home]), inRegion)
		y.ways[home] = slices.Clone(x.ways[home])
		y.ways[home][r] = 0
	}
	y.cards[r], y.ways[r] = nil, make([]int, len(x.ways[r]))
	for card := r * cards; card < (r+1)*cards; card++ {
		y.offs[card] = -1
	}
	y.dirty = slices.DeleteFunc(slices.Clone(x.dirty), inRegion)
	y.marked = slices.DeleteFunc(slices.Clone(x.marked), func(at int) bool { return at/words == r })
	return y
}

// Each region of the stage is freed, alone and behind another one: nothing is known of it any more, and of the others all that was.
func TestFree(t *testing.T) {
	if x := tell(lived(t)); len(x.dirty) != 64 || len(x.marked) != 8*63 || slices.Contains(x.offs, -1) || x.common != 2 || x.waiting <= x.common {
		t.Fatalf("%+v", x)
	}
	for one := range 8 {
		for other := range 8 {
			h := lived(t)
			x := tell(h)
			for _, r := range []int{one, other, one} {
				if x.states[r] == api.Free {
					if e := h.Free(r); e != api.ErrNone {
						t.Errorf("Free(%d) of a free one: %v", r, e)
					}
				} else {
					if e := h.Free(r); e != api.OK {
						t.Errorf("Free(%d): %v", r, e)
					}
					x = x.freed(r, 64, 8)
				}
				if y := tell(h); !y.same(x) {
					t.Fatalf("Free(%d) behind %d: %+v, not %+v", r, one, y, x)
				}
			}
		}
	}
}

func TestFreeOfNoRegion(t *testing.T) {
	h, twin := lived(t), lived(t)
	for _, r := range none(8) {
		if e := h.Free(r); e != api.ErrRange {
			t.Errorf("Free(%d): %v", r, e)
		}
	}
	if e := h.Free(5); e != api.ErrNone {
		t.Errorf("Free(5): %v", e)
	}
	wantTwin(t, h, twin, "Free that is refused")
}

// What is freed is claimed next, with nothing known of it, and all calls answer as of a free one.
func TestFreeAndAgain(t *testing.T) {
	for r, s := range stage().states {
		if s == api.Free {
			continue
		}
		h := lived(t)
		if e := h.Free(r); e != api.OK {
			t.Fatalf("Free(%d): %v", r, e)
		}
		wantRow(t, h, r, nil, api.OK)
		if l := h.Regions.List(api.Free); !slices.Contains(l, r) {
			t.Errorf("free: %v", l)
		}
	}
	h := lived(t)
	for _, r := range []int{3, 4} {
		h.Free(r)
	}
	if r, e := h.Regions.Run(3, 150); r != 3 || e != api.OK {
		t.Errorf("a run of what was freed: %d, %v", r, e)
	}
	h.Free(1)
	if r, e := h.Regions.Claim(api.Old); r != 1 || h.Regions.Top(1) != 64 || e != api.OK {
		t.Errorf("what was freed: %d, %d, %v", r, h.Regions.Top(1), e)
	}
}

// Regions of one card, and of many, at both ends of the greatest heaps.
func TestFreeOfOtherGeometries(t *testing.T) {
	for _, c := range []api.Config{
		{Shift: 6, Regions: 2, CardShift: 6, Threads: 1, Roots: 1, Young: 1},
		{Shift: 9, Regions: 3, CardShift: 3, Threads: 1, Roots: 1, Young: 1},
		{Shift: 6, Regions: 65536, CardShift: 3, Threads: 1, Roots: 1, Young: 1},
		{Shift: 20, Regions: 4, CardShift: 3, Threads: 1, Roots: 1, Young: 1},
		{Shift: 20, Regions: 4, CardShift: 20, Threads: 1, Roots: 1, Young: 1},
	} {
		h, _ := heap.New(c)
		g := h.Geom
		h.Regions.Run(c.Regions, g.Words)
		h.Offs.Put(0, g.Words)
		h.Marks.Fill(0, g.Words, true)
		for card := range g.Cards {
			h.Cards.Dirty(card)
		}
		for _, r := range []int{0, c.Regions - 1} {
			if e := h.Free(r); e != api.OK {
				t.Fatalf("%+v: Free(%d): %v", c, r, e)
			}
		}
		words := g.Words - 2*g.RegionWords
		if n := h.Marks.Count(0, g.Words); n != words || h.Marks.Count(g.RegionWords, g.Words-g.RegionWords) != words {
			t.Errorf("%+v: %d words marked", c, n)
		}
		dirty := h.Cards.List()
		perRegion := g.RegionWords / g.CardWords
		if len(dirty) != g.Cards-2*perRegion || len(dirty) > 0 && (dirty[0] != perRegion || dirty[len(dirty)-1] != g.Cards-perRegion-1) {
			t.Errorf("%+v: %d dirty cards", c, len(dirty))
		}
		for card := range g.Cards {
			_, e := h.Offs.First(card)
			if freed := card < perRegion || card >= g.Cards-perRegion; freed != (e == api.ErrNone) {
				t.Fatalf("%+v: Offs.First(%d): %v", c, card, e)
			}
		}
	}
}
