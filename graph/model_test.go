package graph_test

import (
	"math"
	"slices"
	"testing"

	"gleaner/api"
	"gleaner/graph"
)

// The greatest numbers, written out, so that the tests don't lean on what the package leans on.
const (
	maxThreads = 64
	maxRoots   = 64
	maxSize    = 1 << 20
)

// far are numbers at both ends of what an int can be, and such as sums, products and narrowings make right ones of.
var far = []int{
	math.MinInt, math.MinInt + 1, math.MinInt + 2, math.MinInt + 3, math.MinInt + 64, -1 << 62, 1 - 1<<62, -1 << 61, -1<<32 - 1, -1 << 32, 1 - 1<<32, 2 - 1<<32, -1 << 31, -1 << 16, 1 - 1<<16, -257, -256, -255, -129, -128, -127, -65, -64, -63,
	1<<20 + 1, 1<<20 + 2, 1<<31 - 1, 1 << 31, 1<<32 - 1, 1 << 32, 1<<32 + 1, 1<<32 + 2, 1<<32 + 64, 1<<60 + 1, 1<<61 + 1, 1 << 62, 1<<62 + 1,
	math.MaxInt - 64, math.MaxInt - 2, math.MaxInt - 1, math.MaxInt,
}

// thing is a model's object: what it leads to by numbers, 0 for nil, else the place among all things, and one more.
type thing struct {
	refs []int
	data []uint64
}

// model is the plainest heap: it keeps each thing that ever was.
type model struct {
	roots, max int
	stacks     [][]int
	done       []int
	things     []thing
}

func newModel(threads, roots, max int) *model {
	return &model{roots: roots, max: max, stacks: make([][]int, threads), done: make([]int, threads)}
}

// check answers an error, or OK; those behind a check that answers an error aren't made.
type check func() api.Errno

func want(holds bool, e api.Errno) api.Errno {
	if holds {
		return api.OK
	}
	return e
}

func (m *model) handle(thread, i int) check {
	return func() api.Errno { return want(i >= 0 && i < len(m.stacks[thread]), api.ErrHandle) }
}

func (m *model) notNil(thread, i int) check {
	return func() api.Errno { return want(m.stacks[thread][i] != 0, api.ErrNilRef) }
}

func (m *model) thing(thread, i int) *thing {
	return &m.things[m.stacks[thread][i]-1]
}

func (m *model) ref(thread, i, field int) check {
	return func() api.Errno { return want(field >= 0 && field < len(m.thing(thread, i).refs), api.ErrField) }
}

func (m *model) word(thread, i, field int) check {
	return func() api.Errno { return want(field >= 0 && field < len(m.thing(thread, i).data), api.ErrField) }
}

func (m *model) room(thread int) check {
	return func() api.Errno { return want(len(m.stacks[thread]) < m.roots, api.ErrStack) }
}

func (m *model) size(refs, data int) check {
	return func() api.Errno {
		fits := refs >= 0 && data >= 0 && refs < m.max && data < m.max && 1+refs+data <= m.max
		return want(fits && refs+data > 0, api.ErrSize)
	}
}

// checks are the errors of the chapter's table, in its order.
func (m *model) checks(t int, o api.Op) []check {
	switch o.Kind {
	case 1:
		return []check{m.size(o.A, o.B), m.room(t)}
	case 2:
		return []check{m.handle(t, o.A), m.notNil(t, o.A), m.ref(t, o.A, o.B), m.room(t)}
	case 3:
		return []check{m.handle(t, o.A), m.handle(t, o.C), m.notNil(t, o.A), m.ref(t, o.A, o.B)}
	case 4, 5:
		return []check{m.handle(t, o.A), m.notNil(t, o.A), m.word(t, o.A, o.B)}
	case 6:
		return []check{m.room(t)}
	case 7:
		return []check{func() api.Errno { return want(len(m.stacks[t]) > 0, api.ErrEmpty) }}
	case 8:
		return []check{m.handle(t, o.A), m.room(t)}
	case 9:
		return []check{m.handle(t, o.A), m.handle(t, o.B)}
	case 10:
		return []check{m.handle(t, o.A)}
	case 11:
		return nil
	case 12:
		return []check{func() api.Errno { return want(slices.Contains([]int{0, 1, 2, 3}, o.A), api.ErrKind) }}
	case 13:
		there := func() api.Errno { return want(o.B >= 0 && o.B < len(m.stacks), api.ErrRange) }
		return []check{m.handle(t, o.A), there, m.room(o.B)}
	}
	return []check{func() api.Errno { return api.ErrKind }}
}

func (m *model) push(t, n int) {
	m.stacks[t] = append(m.stacks[t], n)
}

// apply does an operation that may be.
func (m *model) apply(t int, o api.Op, a *api.Answer) {
	stack := m.stacks[t]
	switch o.Kind {
	case 1:
		m.things = append(m.things, thing{make([]int, o.A), make([]uint64, o.B)})
		m.push(t, len(m.things))
	case 2:
		m.push(t, m.thing(t, o.A).refs[o.B])
	case 3:
		m.thing(t, o.A).refs[o.B] = stack[o.C]
	case 4:
		a.Word = m.thing(t, o.A).data[o.B]
	case 5:
		m.thing(t, o.A).data[o.B] = o.V
	case 6:
		m.push(t, 0)
	case 7:
		m.stacks[t] = stack[:len(stack)-1]
	case 8:
		m.push(t, stack[o.A])
	case 9:
		a.Bit = stack[o.A] == stack[o.B]
	case 10:
		a.Bit = stack[o.A] == 0
	case 13:
		m.push(o.B, stack[o.A])
	}
}

func (m *model) do(t int, o api.Op) api.Answer {
	if t < 0 || t >= len(m.stacks) {
		return api.Answer{Code: api.ErrRange}
	}
	a := api.Answer{Thread: t, Op: m.done[t]}
	m.done[t]++
	for _, c := range m.checks(t, o) {
		if a.Code = c(); a.Code != api.OK {
			return a
		}
	}
	m.apply(t, o, &a)
	return a
}

// order is all things that can be come to, as they are come to; the handles of all threads are ahead.
func (m *model) order() []int {
	var order []int
	come := func(n int) {
		if n != 0 && !slices.Contains(order, n) {
			order = append(order, n)
		}
	}
	for _, stack := range m.stacks {
		for _, n := range stack {
			come(n)
		}
	}
	for told := 0; told < len(order); told++ {
		for _, n := range m.things[order[told]-1].refs {
			come(n)
		}
	}
	return order
}

func (m *model) shape() []uint64 {
	order := m.order()
	number := func(n int) uint64 {
		return uint64(slices.Index(append([]int{0}, order...), n))
	}
	var shape []uint64
	for _, stack := range m.stacks {
		shape = append(shape, uint64(len(stack)))
		for _, n := range stack {
			shape = append(shape, number(n))
		}
	}
	for _, n := range order {
		x := m.things[n-1]
		shape = append(shape, uint64(len(x.refs)), uint64(len(x.data)))
		for _, ref := range x.refs {
			shape = append(shape, number(ref))
		}
		shape = append(shape, x.data...)
	}
	return shape
}

// words marks from the handles on till nothing more is marked.
func (m *model) words() int {
	marked := make([]bool, len(m.things)+1)
	for _, stack := range m.stacks {
		for _, n := range stack {
			marked[n] = true
		}
	}
	for changed := true; changed; {
		changed = false
		for i, x := range m.things {
			for _, ref := range x.refs {
				changed = changed || marked[i+1] && !marked[ref]
				marked[ref] = marked[ref] || marked[i+1]
			}
		}
	}
	words := 0
	for i, x := range m.things {
		if marked[i+1] {
			words += 1 + len(x.refs) + len(x.data)
		}
	}
	return words
}

// both are a graph and its model.
type both struct {
	g *graph.Graph
	m *model
}

func newGraph(t *testing.T, threads, roots, max int) *graph.Graph {
	t.Helper()
	g, e := graph.New(threads, roots, max)
	if g == nil || e != api.OK {
		t.Fatalf("New(%d, %d, %d): %v, %v", threads, roots, max, g, e)
	}
	return g
}

func newBoth(t *testing.T, threads, roots, max int) *both {
	t.Helper()
	return &both{newGraph(t, threads, roots, max), newModel(threads, roots, max)}
}

// do does an operation with both, and asks that the answers are the same.
func (x *both) do(t *testing.T, thread int, o api.Op) api.Answer {
	t.Helper()
	want := x.m.do(thread, o)
	if a := x.g.Do(thread, o); a != want {
		t.Fatalf("%v: Do(%d, %v): %v, not %v", x.m.stacks, thread, o, a, want)
	}
	return want
}

// wantKnown holds what a graph tells of itself against the model, twice, since telling may change nothing.
func (x *both) wantKnown(t *testing.T) {
	t.Helper()
	shape, words := x.m.shape(), x.m.words()
	for range 2 {
		if s := x.g.Shape(); !slices.Equal(s, shape) {
			t.Fatalf("%v: Shape %v, not %v", x.m.stacks, s, shape)
		}
		if n := x.g.Words(); n != words {
			t.Fatalf("%v: Words %d, not %d", x.m.stacks, n, words)
		}
	}
}

// step is an operation of a thread.
type step struct {
	thread int
	o      api.Op
}

func (x *both) steps(t *testing.T, steps ...step) {
	t.Helper()
	for _, s := range steps {
		x.do(t, s.thread, s.o)
	}
}

// must does operations of a thread none of which may be refused.
func (x *both) must(t *testing.T, thread int, ops ...api.Op) {
	t.Helper()
	for _, o := range ops {
		if a := x.do(t, thread, o); a.Code != api.OK {
			t.Fatalf("Do(%d, %v): %v", thread, o, a)
		}
	}
}

// drain reads all that can be come to by popping each thread's handles one by one, with a look at what is left.
func (x *both) drain(t *testing.T) {
	t.Helper()
	for thread := range x.m.stacks {
		for range len(x.m.stacks[thread]) + 1 {
			x.do(t, thread, pop)
			x.wantKnown(t)
		}
	}
}

// Operations by their names, so that rows of them can be read.

var (
	pop  = api.Op{Kind: api.OpPop}
	null = api.Op{Kind: api.OpNil}
	poll = api.Op{Kind: api.OpPoll}
)

func alloc(refs, data int) api.Op {
	return api.Op{Kind: api.OpAlloc, A: refs, B: data}
}

func load(handle, field int) api.Op {
	return api.Op{Kind: api.OpLoad, A: handle, B: field}
}

func store(handle, field, from int) api.Op {
	return api.Op{Kind: api.OpStore, A: handle, B: field, C: from}
}

func read(handle, field int) api.Op {
	return api.Op{Kind: api.OpRead, A: handle, B: field}
}

func write(handle, field int, word uint64) api.Op {
	return api.Op{Kind: api.OpWrite, A: handle, B: field, V: word}
}

func dup(handle int) api.Op {
	return api.Op{Kind: api.OpDup, A: handle}
}

func equal(one, other int) api.Op {
	return api.Op{Kind: api.OpEqual, A: one, B: other}
}

func isNil(handle int) api.Op {
	return api.Op{Kind: api.OpIsNil, A: handle}
}

func collect(which int) api.Op {
	return api.Op{Kind: api.OpCollect, A: which}
}

func send(handle, thread int) api.Op {
	return api.Op{Kind: api.OpSend, A: handle, B: thread}
}

// numbers gives numbers from all over by a rule that is always the same.
type numbers uint64

func (n *numbers) below(bound int) int {
	*n = *n*6364136223846793005 + 1442695040888963407
	return int(uint64(*n) >> 33 % uint64(bound))
}

// pick is one of a list.
func pick[T any](n *numbers, list []T) T {
	return list[n.below(len(list))]
}
