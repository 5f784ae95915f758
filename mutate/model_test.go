package mutate_test

import (
	"math"
	"slices"

	"gleaner/api"
	"gleaner/mutate"
)

// far are numbers at both ends of what an int can be, and such as sums, products and narrowings make right ones of.
var far = []int{
	math.MinInt, math.MinInt + 1, math.MinInt + 2, math.MinInt + 3, math.MinInt + 64, -1 << 62, 1 - 1<<62, -1 << 61, -1<<32 - 1, -1 << 32, 1 - 1<<32, 2 - 1<<32, -1 << 31, -1 << 16, 1 - 1<<16, -257, -256, -255, -65, -64, -63, -9, -3, -2, -1,
	1 << 16, 1 << 20, 1<<20 + 1, 1<<22 + 1, 1<<31 - 1, 1 << 31, 1<<32 - 1, 1 << 32, 1<<32 + 1, 1<<32 + 2, 1<<32 + 64, 1<<61 + 1, 1 << 62, 1<<62 + 1,
	math.MaxInt - 64, math.MaxInt - 2, math.MaxInt - 1, math.MaxInt,
}

// Words of headers, by sums and products of layer 4's chapter.

func object(size, ptrs int) uint64 {
	return 1 + uint64(size)*4 + uint64(ptrs)*8388608
}

// sizeOf and ptrsOf take an object's header apart by divisions.

func sizeOf(w uint64) int { return int(w / 4 % 2097152) }

func ptrsOf(w uint64) int { return int(w / 8388608 % 2097152) }

// turn is what a thread is at: how many steps it did of its operation, and what these found.
type turn struct {
	o                       api.Op
	on, logged, told, wants bool
	steps, at, done         int
}

// model is the plainest heap with its threads: every number that there is, and the chapter's sentences one by one.
type model struct {
	c            api.Config
	region, card int // words
	words        []uint64
	states       []api.RegionState
	tops         []int
	begins       map[int]int // of cards, the objects that cover their first words
	dirty        []bool
	common       []int
	local        [][]int
	handles      [][]api.Ref
	next, end    []int // what each thread's buffer has left
	marking      bool
	old          [][]api.Ref
	turns        []turn
}

func newModel(c api.Config) *model {
	m := &model{c: c, region: 1, card: 1, begins: map[int]int{}}
	for range c.Shift {
		m.region *= 2
	}
	for range c.CardShift {
		m.card *= 2
	}
	n := c.Regions * m.region
	m.words, m.dirty = make([]uint64, n), make([]bool, n/m.card)
	m.states = make([]api.RegionState, c.Regions)
	for r := range c.Regions {
		m.tops = append(m.tops, r*m.region)
	}
	m.local, m.handles, m.old = make([][]int, c.Threads), make([][]api.Ref, c.Threads), make([][]api.Ref, c.Threads)
	m.next, m.end, m.turns = make([]int, c.Threads), make([]int, c.Threads), make([]turn, c.Threads)
	return m
}

// greatest is how many words an object may have.
func (m *model) greatest() int {
	return min(1048576, (m.c.Regions-1)*m.region)
}

func (m *model) start(i int, o api.Op) {
	m.turns[i] = turn{o: o, on: true, done: m.turns[i].done}
}

// step does a thread's step, and tells what it comes to.
func (m *model) step(i int) mutate.Result {
	t := &m.turns[i]
	if !t.on {
		return mutate.Result{}
	}
	t.steps++
	t.wants = false
	switch t.o.Kind {
	case 1:
		return m.alloc(i)
	case 3:
		return m.store(i)
	case 2, 4, 5:
		return m.field(i)
	}
	return m.whole(i)
}

func (m *model) fail(i int) (api.Answer, api.Errno) {
	if !m.turns[i].wants {
		return api.Answer{}, 3
	}
	return m.answer(i, api.Answer{Code: 16}).Answer, 0
}

func (m *model) answer(i int, a api.Answer) mutate.Result {
	t := &m.turns[i]
	a.Thread, a.Op = i, t.done
	*t = turn{done: t.done + 1}
	return mutate.Result{Answer: a, Done: true}
}

func (m *model) refuse(i int, e api.Errno) mutate.Result {
	return m.answer(i, api.Answer{Code: e})
}

func (m *model) has(i, handle int) bool {
	return handle >= 0 && handle < len(m.handles[i])
}

func (m *model) push(i int, r api.Ref) api.Errno {
	if len(m.handles[i]) == m.c.Roots {
		return 15
	}
	m.handles[i] = append(m.handles[i], r)
	return 0
}

// header tells what is wrong with handle A or the index B, or where the field is.
func (m *model) header(i int) (int, api.Errno) {
	o := m.turns[i].o
	if !m.has(i, o.A) || o.Kind == 3 && !m.has(i, o.C) {
		return 0, 10
	}
	if m.handles[i][o.A] == 0 {
		return 0, 12
	}
	at := int(m.handles[i][o.A]) - 1
	size, ptrs := sizeOf(m.words[at]), ptrsOf(m.words[at])
	if o.Kind == 2 || o.Kind == 3 {
		if o.B < 0 || o.B >= ptrs {
			return 0, 11
		}
		return at + 1 + o.B, 0
	}
	if o.B < 0 || o.B >= size-1-ptrs {
		return 0, 11
	}
	return at + 1 + ptrs + o.B, 0
}

// look is the first step of what is done to a field.
func (m *model) look(i int) mutate.Result {
	at, e := m.header(i)
	if e != 0 {
		return m.refuse(i, e)
	}
	m.turns[i].at = at
	return mutate.Result{Busy: true}
}

func (m *model) field(i int) mutate.Result {
	t := m.turns[i]
	if t.steps == 1 {
		return m.look(i)
	}
	var a api.Answer
	switch t.o.Kind {
	case 2:
		a.Code = m.push(i, api.Ref(m.words[t.at]))
	case 4:
		a.Word = m.words[t.at]
	case 5:
		m.words[t.at] = t.o.V
	}
	return m.answer(i, a)
}

func (m *model) store(i int) mutate.Result {
	t := &m.turns[i]
	switch {
	case t.steps == 1:
		return m.look(i)
	case t.told:
		return m.note(i)
	case m.marking && !t.logged:
		t.logged = true
		if m.words[t.at] != 0 {
			m.old[i] = append(m.old[i], api.Ref(m.words[t.at]))
		}
		return mutate.Result{Busy: true}
	}
	to := m.handles[i][t.o.C]
	m.words[t.at] = uint64(to)
	was := *t
	r := m.answer(i, api.Answer{})
	if m.noted(was.at, to) {
		*t = turn{o: was.o, on: true, told: true, steps: was.steps, at: was.at, done: t.done}
		r.Busy = true
	}
	return r
}

// noted: do the field and what it leads to lie in two regions, the field's not being young?
func (m *model) noted(field int, to api.Ref) bool {
	s := m.states[field/m.region]
	return to != 0 && field/m.region != (int(to)-1)/m.region && s != 1 && s != 2
}

func (m *model) note(i int) mutate.Result {
	t := &m.turns[i]
	card := t.at / m.card
	*t = turn{done: t.done}
	if m.dirty[card] {
		return mutate.Result{}
	}
	m.dirty[card] = true
	m.local[i] = append(m.local[i], card)
	var left []int
	if len(m.local[i]) == 4 {
		for _, waits := range m.local[i] {
			if len(m.common) < m.c.Queue {
				m.common = append(m.common, waits)
			} else {
				left = append(left, waits)
			}
		}
		m.local[i] = nil
	}
	return mutate.Result{Left: left}
}

func (m *model) alloc(i int) mutate.Result {
	t := &m.turns[i]
	refs, data := t.o.A, t.o.B
	if t.steps == 2 {
		return m.object(i)
	}
	// Numbers above the greatest size are sorted out ahead of the sum, which could wrap round.
	if refs < 0 || data < 0 || refs > m.greatest() || data > m.greatest() || refs+data == 0 || 1+refs+data > m.greatest() {
		return m.refuse(i, 13)
	}
	if len(m.handles[i]) == m.c.Roots {
		return m.refuse(i, 15)
	}
	size := 1 + refs + data
	if 2*size > m.region {
		t.at = m.run(size)
	} else {
		t.at = m.bump(i, size)
	}
	if t.at < 0 {
		t.steps, t.wants = 0, true
		return mutate.Result{Busy: true, Want: true}
	}
	return mutate.Result{Busy: true}
}

// object is an alloc's second step.
func (m *model) object(i int) mutate.Result {
	t := m.turns[i]
	size := 1 + t.o.A + t.o.B
	clear(m.words[t.at : t.at+size])
	m.words[t.at] = object(size, t.o.A)
	if 2*size > m.region {
		for card := range m.dirty {
			if first := card * m.card; first >= t.at && first < t.at+size {
				m.begins[card] = t.at
			}
		}
	}
	return m.refuse(i, m.push(i, api.Ref(t.at+1)))
}

// run takes the lowest free regions side by side that have so many words: the first word, or -1.
func (m *model) run(size int) int {
	n := 0
	for n*m.region < size {
		n++
	}
	for r := 0; r+n <= m.c.Regions; r++ {
		if slices.ContainsFunc(m.states[r:r+n], func(s api.RegionState) bool { return s != 0 }) {
			continue
		}
		base := r * m.region
		for k := r; k < r+n; k++ {
			m.states[k] = 5
			m.tops[k] = min(base+size, (k+1)*m.region)
		}
		m.states[r] = 4
		return base
	}
	return -1
}

// bump takes words of the thread's buffer, or of a new one: the first word, or -1.
func (m *model) bump(i, size int) int {
	if m.end[i]-m.next[i] < size {
		if m.next[i] < m.end[i] {
			m.tops[m.next[i]/m.region] = m.next[i]
		}
		m.next[i], m.end[i] = 0, 0
		eden := 0
		for _, s := range m.states {
			if s == 1 {
				eden++
			}
		}
		r := slices.Index(m.states, 0)
		if eden >= m.c.Young || r < 0 {
			return -1
		}
		m.states[r] = 1
		m.tops[r] = (r + 1) * m.region
		m.next[i], m.end[i] = r*m.region, (r+1)*m.region
	}
	m.next[i] += size
	return m.next[i] - size
}

func (m *model) whole(i int) mutate.Result {
	var a api.Answer
	stack, o := m.handles[i], m.turns[i].o
	switch o.Kind {
	case 6:
		a.Code = m.push(i, 0)
	case 7:
		if len(stack) == 0 {
			return m.refuse(i, 14)
		}
		m.handles[i] = stack[:len(stack)-1]
	case 8, 13:
		a.Code = m.send(i)
	case 9:
		if !m.has(i, o.A) || !m.has(i, o.B) {
			return m.refuse(i, 10)
		}
		a.Bit = stack[o.A] == stack[o.B]
	case 10:
		if !m.has(i, o.A) {
			return m.refuse(i, 10)
		}
		a.Bit = stack[o.A] == 0
	case 11:
	case 12:
		if o.A < 0 || o.A > 3 {
			a.Code = 17
		}
	default:
		a.Code = 17
	}
	return m.answer(i, a)
}

// send is a dup, too: that goes to the thread itself.
func (m *model) send(i int) api.Errno {
	o := m.turns[i].o
	if !m.has(i, o.A) {
		return 10
	}
	to := i
	if o.Kind == 13 {
		to = o.B
	}
	if to < 0 || to >= m.c.Threads {
		return 2
	}
	return m.push(to, m.handles[i][o.A])
}

// Operations by their names, so that rows of them can be read.

var (
	pop  = api.Op{Kind: api.OpPop}
	null = api.Op{Kind: api.OpNil}
	poll = api.Op{Kind: api.OpPoll}
)

func alloc(refs, data int) api.Op {
	return api.Op{Kind: api.OpAlloc, A: refs, B: data}
}

func load(handle, field int) api.Op {
	return api.Op{Kind: api.OpLoad, A: handle, B: field}
}

func store(handle, field, from int) api.Op {
	return api.Op{Kind: api.OpStore, A: handle, B: field, C: from}
}

func read(handle, field int) api.Op {
	return api.Op{Kind: api.OpRead, A: handle, B: field}
}

func write(handle, field int, word uint64) api.Op {
	return api.Op{Kind: api.OpWrite, A: handle, B: field, V: word}
}

func dup(handle int) api.Op {
	return api.Op{Kind: api.OpDup, A: handle}
}

func equal(one, other int) api.Op {
	return api.Op{Kind: api.OpEqual, A: one, B: other}
}

func isNil(handle int) api.Op {
	return api.Op{Kind: api.OpIsNil, A: handle}
}

func collect(which int) api.Op {
	return api.Op{Kind: api.OpCollect, A: which}
}

func send(handle, thread int) api.Op {
	return api.Op{Kind: api.OpSend, A: handle, B: thread}
}

// dice give numbers by a rule that is always the same.
type dice uint64

func (d *dice) below(n int) int {
	*d = *d*6364136223846793005 + 1442695040888963407
	return int(uint64(*d) >> 33 % uint64(n))
}

func (d *dice) oneIn(n int) bool {
	return d.below(n) == 0
}

// pick is one of a list.
func pick[T any](d *dice, list []T) T {
	return list[d.below(len(list))]
}
