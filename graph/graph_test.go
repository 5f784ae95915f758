package graph_test

import (
	"math"
	"runtime"
	"slices"
	"testing"

	"gleaner/api"
	"gleaner/graph"
)

// P13.1

// wantNew asks for a graph, and, if there may be one, that it is empty and has just the bounds that were asked for.
func wantNew(t *testing.T, threads, roots, size int, may bool) {
	t.Helper()
	g, e := graph.New(threads, roots, size)
	if !may {
		if g != nil || e != api.ErrRange {
			t.Errorf("New(%d, %d, %d): %v, %v", threads, roots, size, g, e)
		}
		return
	}
	if g == nil || e != api.OK {
		t.Fatalf("New(%d, %d, %d): %v, %v", threads, roots, size, g, e)
	}
	if s := g.Shape(); !slices.Equal(s, make([]uint64, threads)) || g.Words() != 0 {
		t.Errorf("New(%d, %d, %d): Shape %v, Words %d", threads, roots, size, s, g.Words())
	}
	for _, thread := range []int{-1, threads} {
		if a := g.Do(thread, null); a != (api.Answer{Code: api.ErrRange}) {
			t.Errorf("New(%d, %d, %d): Do of %d: %v", threads, roots, size, thread, a)
		}
	}
	for thread := range threads {
		for n := range roots {
			if a := g.Do(thread, null); a != (api.Answer{Thread: thread, Op: n}) {
				t.Errorf("New(%d, %d, %d): push %d of thread %d: %v", threads, roots, size, n, thread, a)
			}
		}
		if a := g.Do(thread, null); a.Code != api.ErrStack {
			t.Errorf("New(%d, %d, %d): one more of thread %d: %v", threads, roots, size, thread, a)
		}
	}
	g.Do(0, pop)
	for _, o := range []api.Op{alloc(0, size), alloc(size, 0), alloc(size-1, 1), alloc(1, size-1), alloc(0, 0)} {
		if a := g.Do(0, o); a.Code != api.ErrSize {
			t.Errorf("New(%d, %d, %d): %v: %v", threads, roots, size, o, a)
		}
	}
	if size == 1 {
		return
	}
	if a := g.Do(0, alloc(0, size-1)); a.Code != api.OK || g.Words() != size {
		t.Errorf("New(%d, %d, %d): the greatest: %v, Words %d", threads, roots, size, a, g.Words())
	}
}

// Each number about those that may be, and the far ones, of each of the three bounds.
func TestNewOfEachNumber(t *testing.T) {
	all := slices.Clone(far)
	for n := -140; n <= 140; n++ {
		all = append(all, n)
	}
	for _, n := range all {
		wantNew(t, n, 2, 9, n >= 1 && n <= 64)
		wantNew(t, 2, n, 9, n >= 1 && n <= 64)
		wantNew(t, 1, 2, n, n >= 1 && n <= 1<<20)
	}
	for n := 1<<20 - 3; n < 1<<20+4; n++ {
		wantNew(t, 1, 1, n, n <= 1<<20)
	}
}

// The edges that the promise names, with one another.
func TestNewAtTheEdges(t *testing.T) {
	edges := []struct {
		n   int
		may bool
	}{{math.MinInt, false}, {-1, false}, {0, false}, {1, true}, {64, true}, {65, false}, {1<<32 + 1, false}, {math.MaxInt, false}}
	sizes := []struct {
		n   int
		may bool
	}{{math.MinInt, false}, {-1, false}, {0, false}, {1, true}, {2, true}, {1 << 20, true}, {1<<20 + 1, false}, {1<<32 + 1, false}, {math.MaxInt, false}}
	for _, threads := range edges {
		for _, roots := range edges {
			for _, size := range sizes {
				wantNew(t, threads.n, roots.n, size.n, threads.may && roots.may && size.may)
			}
		}
	}
}

// Each call of a nil graph, and of what a refused New gives: that it is nil is told ahead of any other fault.
func TestNilGraph(t *testing.T) {
	var none *graph.Graph
	refused, _ := graph.New(1, 0, 1)
	for _, g := range []*graph.Graph{none, refused} {
		for range 2 {
			if len(g.Shape()) != 0 || g.Words() != 0 {
				t.Errorf("Shape %v, Words %d", g.Shape(), g.Words())
			}
			for _, thread := range append([]int{-1, 0, 1, 63, 64}, far...) {
				for kind := api.OpKind(-2); kind < 17; kind++ {
					for _, o := range []api.Op{{Kind: kind}, {Kind: kind, A: 1, B: 1, C: 1, V: 1}, {Kind: kind, A: -1, B: math.MaxInt, C: math.MinInt}} {
						if a := g.Do(thread, o); a != (api.Answer{Code: api.ErrNil}) {
							t.Errorf("Do(%d, %v): %v", thread, o, a)
						}
					}
				}
			}
		}
	}
}

// P13.2

// stage is a graph of three threads, with stacks of five and objects of at most ten words. Thread 0 has the handles: 0, an object of two references and three data words, that leads to 3 by its first reference and has the words 0, 70, 71; 1, nil; 2, the same as 0; 3, an object of one reference, to itself, and no data; and has room for one more. Thread 1 is full: 0, nil; 1 and 2, an object of no references and one word, 90; 3, the object of thread 0's handle 3; 4, nil. Thread 2 is empty. Each has done so many operations: 9, 6, 1.
func stage(t *testing.T) *both {
	t.Helper()
	x := newBoth(t, 3, 5, 10)
	x.must(t, 0, alloc(2, 3), null, dup(0), alloc(1, 0), store(0, 0, 3), store(3, 0, 3), write(2, 1, 70), write(0, 2, 71), send(3, 2))
	x.must(t, 1, null, alloc(0, 1), dup(1))
	x.must(t, 2, send(0, 1), pop)
	x.must(t, 1, null, write(2, 0, 90))
	return x
}

func TestStage(t *testing.T) {
	x := stage(t)
	want := []uint64{4, 1, 0, 1, 2, 5, 0, 3, 3, 2, 0, 0, 2, 3, 2, 0, 0, 70, 71, 1, 0, 2, 0, 1, 90}
	if s := x.g.Shape(); !slices.Equal(s, want) || x.g.Words() != 10 {
		t.Errorf("Shape %v, Words %d", s, x.g.Words())
	}
	x.wantKnown(t)
	x.drain(t)
}

// told is an operation upon the stage, and what it came to.
type told struct {
	thread int
	o      api.Op
	code   api.Errno
	word   uint64
	bit    bool
}

// wantTold does each operation upon a stage of its own. A refused one changes nothing.
func wantTold(t *testing.T, rows []told) {
	t.Helper()
	for _, r := range rows {
		x := stage(t)
		was := x.g.Shape()
		want := api.Answer{Thread: r.thread, Op: x.m.done[r.thread], Code: r.code, Word: r.word, Bit: r.bit}
		if a := x.g.Do(r.thread, r.o); a != want {
			t.Errorf("Do(%d, %v): %v, not %v", r.thread, r.o, a, want)
		}
		if a := x.m.do(r.thread, r.o); a != want {
			t.Errorf("the model: Do(%d, %v): %v, not %v", r.thread, r.o, a, want)
		}
		if s := x.g.Shape(); r.code != api.OK && !slices.Equal(s, was) {
			t.Errorf("Do(%d, %v): %v was changed to %v", r.thread, r.o, was, s)
		}
		x.wantKnown(t)
		x.drain(t)
	}
}

// The errors of each operation, at the edges that the chapter names, with the answers written out.
func TestAllocAtTheEdges(t *testing.T) {
	wantTold(t, []told{
		{o: alloc(1, 0)},
		{o: alloc(0, 1)},
		{o: alloc(9, 0)},
		{o: alloc(0, 9)},
		{o: alloc(4, 5)},
		{o: alloc(5, 4)},
		{o: alloc(0, 0), code: api.ErrSize},
		{o: alloc(10, 0), code: api.ErrSize},
		{o: alloc(0, 10), code: api.ErrSize},
		{o: alloc(5, 5), code: api.ErrSize},
		{o: alloc(9, 1), code: api.ErrSize},
		{o: alloc(1, 9), code: api.ErrSize},
		{o: alloc(-1, 0), code: api.ErrSize},
		{o: alloc(0, -1), code: api.ErrSize},
		{o: alloc(-1, -1), code: api.ErrSize},
		{o: alloc(-1, 5), code: api.ErrSize},
		{o: alloc(5, -1), code: api.ErrSize},
		{o: alloc(-3, 9), code: api.ErrSize},
		{o: alloc(12, -5), code: api.ErrSize},
		{o: alloc(1, -1), code: api.ErrSize},
		{o: alloc(-1, 1), code: api.ErrSize},
		// Sums of these wrap round to numbers that may be, or are narrowed to such.
		{o: alloc(math.MaxInt, math.MaxInt), code: api.ErrSize},
		{o: alloc(math.MaxInt, 1), code: api.ErrSize},
		{o: alloc(1, math.MaxInt), code: api.ErrSize},
		{o: alloc(math.MaxInt, 0), code: api.ErrSize},
		{o: alloc(0, math.MaxInt), code: api.ErrSize},
		{o: alloc(math.MaxInt-1, 1), code: api.ErrSize},
		{o: alloc(1<<62, 1<<62), code: api.ErrSize},
		{o: alloc(1<<62+1, 1<<62+1), code: api.ErrSize},
		{o: alloc(math.MinInt, math.MinInt), code: api.ErrSize},
		{o: alloc(math.MinInt, math.MinInt+4), code: api.ErrSize},
		{o: alloc(math.MinInt+4, math.MinInt), code: api.ErrSize},
		{o: alloc(math.MinInt+4, math.MaxInt), code: api.ErrSize},
		{o: alloc(math.MaxInt, math.MinInt+4), code: api.ErrSize},
		{o: alloc(math.MinInt, 0), code: api.ErrSize},
		{o: alloc(0, math.MinInt), code: api.ErrSize},
		{o: alloc(1<<32, 1), code: api.ErrSize},
		{o: alloc(1, 1<<32), code: api.ErrSize},
		{o: alloc(1<<32+1, 0), code: api.ErrSize},
		{o: alloc(257, 0), code: api.ErrSize},
		// Onto a full stack, and onto an empty one.
		{thread: 1, o: alloc(1, 1), code: api.ErrStack},
		{thread: 1, o: alloc(4, 5), code: api.ErrStack},
		{thread: 1, o: alloc(0, 0), code: api.ErrSize},
		{thread: 1, o: alloc(5, 5), code: api.ErrSize},
		{thread: 1, o: alloc(-1, 5), code: api.ErrSize},
		{thread: 2, o: alloc(4, 5)},
		// What the operation doesn't name doesn't matter.
		{o: api.Op{Kind: api.OpAlloc, A: 1, B: 2, C: -7, V: 9}},
	})
}

func TestLoadAtTheEdges(t *testing.T) {
	wantTold(t, []told{
		{o: load(0, 0)},
		{o: load(0, 1)},
		{o: load(2, 0)},
		{o: load(3, 0)},
		{o: load(-1, 0), code: api.ErrHandle},
		{o: load(4, 0), code: api.ErrHandle},
		{o: load(5, 0), code: api.ErrHandle},
		{o: load(math.MaxInt, 0), code: api.ErrHandle},
		{o: load(math.MinInt, 0), code: api.ErrHandle},
		{o: load(1<<32, 0), code: api.ErrHandle},
		{o: load(256, 0), code: api.ErrHandle},
		{o: load(1, 0), code: api.ErrNilRef},
		{o: load(0, -1), code: api.ErrField},
		{o: load(0, 2), code: api.ErrField},
		{o: load(0, 3), code: api.ErrField},
		{o: load(0, 5), code: api.ErrField},
		{o: load(3, 1), code: api.ErrField},
		{o: load(0, 1<<32), code: api.ErrField},
		{o: load(0, 256), code: api.ErrField},
		{o: load(0, math.MaxInt), code: api.ErrField},
		{o: load(0, math.MinInt), code: api.ErrField},
		{o: load(0, math.MinInt+1), code: api.ErrField},
		// Several errors apply.
		{o: load(-1, -1), code: api.ErrHandle},
		{o: load(4, 2), code: api.ErrHandle},
		{o: load(1, -1), code: api.ErrNilRef},
		{o: load(1, 9), code: api.ErrNilRef},
		{thread: 1, o: load(5, 0), code: api.ErrHandle},
		{thread: 1, o: load(-1, 9), code: api.ErrHandle},
		{thread: 1, o: load(0, 0), code: api.ErrNilRef},
		{thread: 1, o: load(4, 9), code: api.ErrNilRef},
		{thread: 1, o: load(1, 0), code: api.ErrField},
		{thread: 1, o: load(2, -1), code: api.ErrField},
		{thread: 1, o: load(3, 1), code: api.ErrField},
		{thread: 1, o: load(3, 0), code: api.ErrStack},
		{thread: 2, o: load(0, 0), code: api.ErrHandle},
		{thread: 2, o: load(-1, 0), code: api.ErrHandle},
		{o: api.Op{Kind: api.OpLoad, A: 0, B: 0, C: -7, V: 9}},
	})
}

func TestStoreAtTheEdges(t *testing.T) {
	wantTold(t, []told{
		{o: store(0, 0, 0)},
		{o: store(0, 1, 0)},
		{o: store(0, 1, 3)},
		{o: store(2, 0, 1)},
		{o: store(3, 0, 1)},
		{o: store(3, 0, 3)},
		{thread: 1, o: store(3, 0, 4)},
		{thread: 1, o: store(3, 0, 2)},
		{o: store(-1, 0, 0), code: api.ErrHandle},
		{o: store(4, 0, 0), code: api.ErrHandle},
		{o: store(0, 0, -1), code: api.ErrHandle},
		{o: store(0, 0, 4), code: api.ErrHandle},
		{o: store(0, 0, 5), code: api.ErrHandle},
		{o: store(1<<32, 0, 0), code: api.ErrHandle},
		{o: store(0, 0, 1<<32), code: api.ErrHandle},
		{o: store(0, 0, math.MaxInt), code: api.ErrHandle},
		{o: store(0, 0, math.MinInt), code: api.ErrHandle},
		{o: store(math.MinInt, 0, 0), code: api.ErrHandle},
		{o: store(1, 0, 0), code: api.ErrNilRef},
		{o: store(1, 0, 1), code: api.ErrNilRef},
		{o: store(0, -1, 0), code: api.ErrField},
		{o: store(0, 2, 0), code: api.ErrField},
		{o: store(0, 4, 1), code: api.ErrField},
		{o: store(3, 1, 0), code: api.ErrField},
		{o: store(0, 1<<32, 0), code: api.ErrField},
		{o: store(0, math.MaxInt, 0), code: api.ErrField},
		{o: store(0, math.MinInt, 0), code: api.ErrField},
		{thread: 1, o: store(1, 0, 0), code: api.ErrField},
		{thread: 1, o: store(2, -1, 3), code: api.ErrField},
		// Several errors apply.
		{o: store(-1, 0, -1), code: api.ErrHandle},
		{o: store(4, 9, 0), code: api.ErrHandle},
		{o: store(1, 0, 4), code: api.ErrHandle},
		{o: store(1, 9, -1), code: api.ErrHandle},
		{o: store(0, 9, 4), code: api.ErrHandle},
		{o: store(0, -1, -1), code: api.ErrHandle},
		{o: store(1, -1, 0), code: api.ErrNilRef},
		{o: store(1, 2, 1), code: api.ErrNilRef},
		{thread: 2, o: store(0, 0, 0), code: api.ErrHandle},
		{o: api.Op{Kind: api.OpStore, A: 0, B: 1, C: 3, V: 9}},
	})
}

func TestReadAndWriteAtTheEdges(t *testing.T) {
	for _, r := range []told{
		{o: read(0, 0)},
		{o: read(0, 1), word: 70},
		{o: read(0, 2), word: 71},
		{o: read(2, 1), word: 70},
		{thread: 1, o: read(1, 0), word: 90},
		{thread: 1, o: read(2, 0), word: 90},
		{o: read(-1, 0), code: api.ErrHandle},
		{o: read(4, 0), code: api.ErrHandle},
		{o: read(9, 0), code: api.ErrHandle},
		{o: read(1<<32, 0), code: api.ErrHandle},
		{o: read(math.MaxInt, 0), code: api.ErrHandle},
		{o: read(math.MinInt, 0), code: api.ErrHandle},
		{o: read(1, 0), code: api.ErrNilRef},
		{o: read(0, -1), code: api.ErrField},
		{o: read(0, 3), code: api.ErrField},
		{o: read(0, 5), code: api.ErrField},
		{o: read(3, 0), code: api.ErrField},
		{o: read(3, -1), code: api.ErrField},
		{o: read(0, 1<<32+1), code: api.ErrField},
		{o: read(0, 257), code: api.ErrField},
		{o: read(0, math.MaxInt), code: api.ErrField},
		{o: read(0, math.MinInt), code: api.ErrField},
		{o: read(0, math.MinInt+1), code: api.ErrField},
		{thread: 1, o: read(1, 1), code: api.ErrField},
		{thread: 1, o: read(3, 0), code: api.ErrField},
		// Several errors apply.
		{o: read(-1, -1), code: api.ErrHandle},
		{o: read(4, 9), code: api.ErrHandle},
		{o: read(1, -1), code: api.ErrNilRef},
		{o: read(1, 9), code: api.ErrNilRef},
		{thread: 2, o: read(0, 0), code: api.ErrHandle},
		{o: api.Op{Kind: api.OpRead, A: 0, B: 1, C: -7, V: 9}, word: 70},
	} {
		written := r
		written.o.Kind, written.o.V, written.word = api.OpWrite, 1<<63+5, 0
		wantTold(t, []told{r, written})
	}
}

func TestHandlesAtTheEdges(t *testing.T) {
	wantTold(t, []told{
		{o: null},
		{thread: 2, o: null},
		{thread: 1, o: null, code: api.ErrStack},
		{o: api.Op{Kind: api.OpNil, A: -1, B: -1, C: -1, V: 9}},
		{o: pop},
		{thread: 1, o: pop},
		{thread: 2, o: pop, code: api.ErrEmpty},
		{o: api.Op{Kind: api.OpPop, A: -1, B: -1, C: -1, V: 9}},
		{o: dup(0)},
		{o: dup(1)},
		{o: dup(3)},
		{o: dup(-1), code: api.ErrHandle},
		{o: dup(4), code: api.ErrHandle},
		{o: dup(1 << 32), code: api.ErrHandle},
		{o: dup(math.MaxInt), code: api.ErrHandle},
		{o: dup(math.MinInt), code: api.ErrHandle},
		{thread: 1, o: dup(0), code: api.ErrStack},
		{thread: 1, o: dup(1), code: api.ErrStack},
		{thread: 1, o: dup(4), code: api.ErrStack},
		{thread: 1, o: dup(5), code: api.ErrHandle},
		{thread: 1, o: dup(-1), code: api.ErrHandle},
		{thread: 2, o: dup(0), code: api.ErrHandle},
		{o: api.Op{Kind: api.OpDup, A: 0, B: -1, C: -1, V: 9}},
	})
}

func TestQuestionsAtTheEdges(t *testing.T) {
	wantTold(t, []told{
		{o: equal(0, 0), bit: true},
		{o: equal(0, 2), bit: true},
		{o: equal(2, 0), bit: true},
		{o: equal(1, 1), bit: true},
		{o: equal(0, 1)},
		{o: equal(1, 0)},
		{o: equal(0, 3)},
		{o: equal(3, 2)},
		{thread: 1, o: equal(0, 4), bit: true},
		{thread: 1, o: equal(4, 0), bit: true},
		{thread: 1, o: equal(1, 2), bit: true},
		{thread: 1, o: equal(1, 3)},
		{thread: 1, o: equal(4, 3)},
		{o: equal(-1, 0), code: api.ErrHandle},
		{o: equal(0, -1), code: api.ErrHandle},
		{o: equal(4, 0), code: api.ErrHandle},
		{o: equal(0, 4), code: api.ErrHandle},
		{o: equal(4, 4), code: api.ErrHandle},
		{o: equal(-1, -1), code: api.ErrHandle},
		{o: equal(1, 4), code: api.ErrHandle},
		{o: equal(4, 1), code: api.ErrHandle},
		{o: equal(0, 1<<32), code: api.ErrHandle},
		{o: equal(1<<32, 0), code: api.ErrHandle},
		{o: equal(math.MaxInt, math.MinInt), code: api.ErrHandle},
		{thread: 2, o: equal(0, 0), code: api.ErrHandle},
		{o: api.Op{Kind: api.OpEqual, A: 0, B: 2, C: -7, V: 9}, bit: true},
		{o: isNil(0)},
		{o: isNil(1), bit: true},
		{o: isNil(2)},
		{o: isNil(3)},
		{thread: 1, o: isNil(0), bit: true},
		{thread: 1, o: isNil(4), bit: true},
		{o: isNil(-1), code: api.ErrHandle},
		{o: isNil(4), code: api.ErrHandle},
		{o: isNil(1<<32 + 1), code: api.ErrHandle},
		{o: isNil(math.MaxInt), code: api.ErrHandle},
		{o: isNil(math.MinInt), code: api.ErrHandle},
		{thread: 2, o: isNil(0), code: api.ErrHandle},
		{o: api.Op{Kind: api.OpIsNil, A: 1, B: -7, C: -7, V: 9}, bit: true},
	})
}

func TestCollectionsAndKindsAtTheEdges(t *testing.T) {
	wantTold(t, []told{
		{o: poll},
		{thread: 2, o: poll},
		{o: api.Op{Kind: api.OpPoll, A: -1, B: -1, C: -1, V: 9}},
		{o: collect(0)},
		{o: collect(1)},
		{o: collect(2)},
		{o: collect(3)},
		{thread: 1, o: collect(2)},
		{thread: 2, o: collect(2)},
		{o: collect(-1), code: api.ErrKind},
		{o: collect(4), code: api.ErrKind},
		{o: collect(256), code: api.ErrKind},
		{o: collect(1 << 32), code: api.ErrKind},
		{o: collect(math.MaxInt), code: api.ErrKind},
		{o: collect(math.MinInt), code: api.ErrKind},
		{thread: 2, o: collect(4), code: api.ErrKind},
		{o: api.Op{Kind: api.OpCollect, A: 3, B: -7, C: -7, V: 9}},
		{o: api.Op{}, code: api.ErrKind},
		{o: api.Op{Kind: -1}, code: api.ErrKind},
		{o: api.Op{Kind: 14}, code: api.ErrKind},
		{o: api.Op{Kind: 15, A: -1, B: 99}, code: api.ErrKind},
		{o: api.Op{Kind: 257, A: 1, B: 1}, code: api.ErrKind},
		{o: api.Op{Kind: 1<<32 + 7}, code: api.ErrKind},
		{o: api.Op{Kind: math.MaxInt}, code: api.ErrKind},
		{o: api.Op{Kind: math.MinInt}, code: api.ErrKind},
		{thread: 1, o: api.Op{Kind: 14}, code: api.ErrKind},
		{thread: 2, o: api.Op{}, code: api.ErrKind},
	})
}

func TestSendAtTheEdges(t *testing.T) {
	wantTold(t, []told{
		{o: send(0, 2)},
		{o: send(1, 2)},
		{o: send(3, 2)},
		{o: send(0, 0)},
		{o: send(1, 0)},
		{thread: 1, o: send(1, 0)},
		{thread: 1, o: send(4, 2)},
		{o: send(-1, 2), code: api.ErrHandle},
		{o: send(4, 2), code: api.ErrHandle},
		{o: send(1<<32, 2), code: api.ErrHandle},
		{o: send(math.MinInt, 2), code: api.ErrHandle},
		{thread: 2, o: send(0, 0), code: api.ErrHandle},
		{o: send(0, -1), code: api.ErrRange},
		{o: send(0, 3), code: api.ErrRange},
		{o: send(0, 64), code: api.ErrRange},
		{o: send(0, 1<<32), code: api.ErrRange},
		{o: send(0, 1<<32+2), code: api.ErrRange},
		{o: send(0, math.MaxInt), code: api.ErrRange},
		{o: send(0, math.MinInt), code: api.ErrRange},
		{o: send(0, 1), code: api.ErrStack},
		{o: send(1, 1), code: api.ErrStack},
		{thread: 1, o: send(0, 1), code: api.ErrStack},
		{thread: 1, o: send(1, 1), code: api.ErrStack},
		// Several errors apply.
		{o: send(-1, -1), code: api.ErrHandle},
		{o: send(4, 3), code: api.ErrHandle},
		{o: send(4, 1), code: api.ErrHandle},
		{thread: 1, o: send(5, 1), code: api.ErrHandle},
		{thread: 1, o: send(0, 3), code: api.ErrRange},
		{thread: 1, o: send(1, -1), code: api.ErrRange},
		{thread: 2, o: send(0, 1), code: api.ErrHandle},
		{o: api.Op{Kind: api.OpSend, A: 0, B: 2, C: -7, V: 9}},
	})
}

// Threads that aren't there do nothing, whatever the operation is, and do no operation ahead of any.
func TestThreadsThatAreNotThere(t *testing.T) {
	x := stage(t)
	was := x.g.Shape()
	for _, thread := range append([]int{-3, -2, -1, 3, 4, 63, 64, 1 << 20}, far...) {
		for kind := api.OpKind(-1); kind < 16; kind++ {
			for _, o := range []api.Op{{Kind: kind}, {Kind: kind, A: 1, B: 1}, {Kind: kind, A: -1, B: 9, C: -1, V: 3}} {
				if a := x.g.Do(thread, o); a != (api.Answer{Code: api.ErrRange}) {
					t.Fatalf("Do(%d, %v): %v", thread, o, a)
				}
			}
		}
		if s := x.g.Shape(); !slices.Equal(s, was) {
			t.Fatalf("thread %d: %v was changed to %v", thread, was, s)
		}
	}
	for thread, done := range []int{9, 5, 2} {
		if a := x.g.Do(thread, poll); a != (api.Answer{Thread: thread, Op: done}) {
			t.Errorf("thread %d: %v", thread, a)
		}
	}
}

// Each operation is counted for the thread that does it, refused ones too, and for no other.
func TestOperationsAreCounted(t *testing.T) {
	g := newGraph(t, 3, 2, 4)
	var done [3]int
	n := numbers(7)
	for range 20000 {
		thread := n.below(3)
		o := api.Op{Kind: api.OpKind(n.below(16)), A: n.below(5) - 1, B: n.below(5) - 1, C: n.below(4) - 1}
		if a := g.Do(thread, o); a.Thread != thread || a.Op != done[thread] {
			t.Fatalf("Do(%d, %v): %v, not operation %d", thread, o, a, done[thread])
		}
		done[thread]++
		if n.below(9) == 0 {
			g.Do(-1-n.below(3), o)
			g.Do(3+n.below(3), o)
			g.Shape()
			g.Words()
		}
	}
}

// states are rows that end in stacks of several kinds, of three threads with four handles each.
func states() [][]step {
	return [][]step{
		{},
		{{0, null}},
		{{0, alloc(2, 2)}},
		{{0, alloc(1, 3)}, {0, null}, {0, alloc(3, 0)}, {0, store(2, 1, 0)}},
		{{0, alloc(2, 1)}, {0, dup(0)}, {0, store(0, 0, 0)}, {0, null}, {0, alloc(0, 3)}, {0, store(0, 1, 3)}},
		{{0, alloc(0, 4)}, {0, alloc(4, 0)}, {1, null}, {1, null}, {1, null}, {1, null}, {0, send(1, 2)}},
		{{1, alloc(1, 1)}, {1, send(0, 0)}, {1, send(0, 0)}, {1, send(0, 2)}, {1, pop}, {2, alloc(1, 2)}, {2, store(0, 0, 1)}, {2, pop}},
	}
}

// Each operation with each of several numbers, far ones too, in each of several states.
func TestEachOperationInEachState(t *testing.T) {
	few := []int{math.MinInt, -1, 0, 1, 2, 3, 4, 5, 1 << 32, math.MaxInt}
	for _, state := range states() {
		for kind := api.OpKind(-1); kind < 16; kind++ {
			for i := range len(few) * len(few) * len(few) {
				o := api.Op{Kind: kind, A: few[i%10], B: few[i/10%10], C: few[i/100], V: uint64(i)<<40 + 1}
				if kind != api.OpStore && o.C != 1 {
					continue
				}
				for thread := range 3 {
					x := newBoth(t, 3, 4, 5)
					x.steps(t, state...)
					x.do(t, thread, o)
					x.wantKnown(t)
					x.drain(t)
				}
			}
		}
	}
}

// wantRows does each row of up to so many of the steps, of stacks of so many handles.
func wantRows(t *testing.T, threads, roots, longest int, steps []step) {
	t.Helper()
	rows := 1
	for length := 1; length <= longest; length++ {
		rows *= len(steps)
		for row := range rows {
			x := newBoth(t, threads, roots, 4)
			for n, left := 0, row; n < length; n, left = n+1, left/len(steps) {
				s := steps[left%len(steps)]
				s.o.V = uint64(n + 1)
				x.do(t, s.thread, s.o)
			}
			// What stands ahead of a row's last operation is a row of its own, which was looked at.
			x.wantKnown(t)
		}
	}
}

// Each row of up to five operations of one thread, with stacks of two and of three handles.
func TestEachRowOfOneThread(t *testing.T) {
	steps := []step{{0, alloc(1, 1)}, {0, alloc(2, 0)}, {0, null}, {0, pop}, {0, dup(0)}, {0, store(0, 0, 1)}, {0, store(1, 0, 0)}, {0, store(0, 0, 0)}, {0, load(0, 0)}, {0, write(0, 0, 0)}, {0, read(1, 0)}, {0, equal(0, 1)}, {0, isNil(1)}}
	wantRows(t, 1, 2, 4, steps)
	wantRows(t, 1, 3, 5, steps)
}

// Each row of up to five operations of two threads, in each order, handles sent from each to the other.
func TestEachRowOfTwoThreads(t *testing.T) {
	var steps []step
	for thread := range 2 {
		steps = append(steps, step{thread, alloc(1, 1)}, step{thread, send(0, 1-thread)}, step{thread, pop}, step{thread, store(0, 0, 1)}, step{thread, load(0, 0)}, step{thread, write(0, 0, 0)})
	}
	wantRows(t, 2, 2, 5, steps)
	wantRows(t, 2, 3, 4, append(steps, step{0, read(0, 0)}, step{1, equal(0, 1)}, step{1, null}, step{0, send(0, 0)}, step{1, collect(2)}))
}

// Of what has two handles, and of what is in a ring, each row of up to five operations behind the ones that make it.
func TestEachRowOfARing(t *testing.T) {
	ring := []step{{0, alloc(2, 1)}, {0, alloc(2, 1)}, {0, store(0, 0, 1)}, {0, store(1, 0, 0)}, {0, store(1, 1, 1)}, {0, send(1, 1)}}
	steps := []step{{0, pop}, {1, pop}, {0, load(0, 0)}, {1, load(0, 1)}, {0, alloc(1, 1)}, {0, store(0, 0, 1)}, {1, store(0, 0, 1)}, {0, send(0, 1)}, {1, send(0, 0)}, {0, equal(0, 1)}}
	rows := 1
	for length := 1; length <= 5; length++ {
		rows *= len(steps)
		for row := range rows {
			x := newBoth(t, 2, 3, 4)
			x.steps(t, ring...)
			for n, left := 0, row; n < length; n, left = n+1, left/len(steps) {
				x.steps(t, steps[left%len(steps)])
			}
			x.wantKnown(t)
		}
	}
}

// some is an operation by a rule, mostly such as may be.
func some(n *numbers, m *model, thread int) api.Op {
	count := len(m.stacks[thread])
	o := api.Op{Kind: api.OpKind(1 + n.below(13)), A: n.below(count + 1), B: n.below(4), C: n.below(count + 1), V: uint64(n.below(1<<30))<<34 + 5}
	switch {
	case o.Kind == api.OpAlloc:
		o.A, o.B = n.below(4), n.below(4)
	case o.Kind == api.OpEqual:
		o.B = n.below(count + 1)
	case o.Kind == api.OpSend:
		o.B = n.below(len(m.stacks) + 1)
	}
	switch n.below(40) {
	case 0:
		o.A = pick(n, far)
	case 1:
		o.B = pick(n, far)
	case 2:
		o.C = pick(n, far)
	case 3:
		o.A, o.B, o.C = n.below(9)-3, n.below(9)-3, n.below(9)-3
	case 4:
		o.Kind = api.OpKind(n.below(20) - 3)
	}
	return o
}

// Many operations by a rule, of graphs with each of several bounds. All is held against the model now and then, and at the end while it is popped.
func TestManyOperations(t *testing.T) {
	for _, r := range [][3]int{{1, 1, 4}, {1, 2, 5}, {1, 3, 7}, {1, 64, 7}, {2, 2, 7}, {2, 5, 7}, {3, 4, 6}, {5, 8, 7}, {8, 3, 7}, {64, 1, 7}, {64, 3, 7}, {17, 17, 7}} {
		for seed := range 6 {
			n := numbers(seed + r[0]*r[1])
			x := newBoth(t, r[0], r[1], r[2])
			for round := range 1500 {
				thread := n.below(r[0])
				x.do(t, thread, some(&n, x.m, thread))
				if round%25 == 0 {
					x.wantKnown(t)
				}
			}
			x.wantKnown(t)
			x.drain(t)
		}
	}
}

// A thread alone builds, drops and finds again objects for a long time; each answer and each shape is looked at.
func TestALongLife(t *testing.T) {
	for seed := range 20 {
		n := numbers(seed)
		x := newBoth(t, 1, 6, 7)
		for range 400 {
			x.do(t, 0, some(&n, x.m, 0))
			x.wantKnown(t)
		}
	}
}

// Data words keep all of their bits, each in its own field of its own object.
func TestDataWordsKeepTheirBits(t *testing.T) {
	words := []uint64{0, 1, 7, 1<<31 - 1, 1 << 31, 1<<32 - 1, 1 << 32, 1<<53 + 1, 1<<63 - 1, 1 << 63, math.MaxUint64 - 1, math.MaxUint64}
	x := newBoth(t, 1, 2, 100)
	x.must(t, 0, alloc(2, 90), alloc(0, 90))
	for round, word := range words {
		for field := range 90 {
			x.must(t, 0, write(0, field, word+uint64(field)), write(1, field, ^word-uint64(field)))
		}
		for field := range 90 {
			if a := x.do(t, 0, read(0, field)); a.Word != word+uint64(field) || a.Bit {
				t.Errorf("round %d, field %d: %v", round, field, a)
			}
			if a := x.do(t, 0, read(1, field)); a.Word != ^word-uint64(field) {
				t.Errorf("round %d, field %d: %v", round, field, a)
			}
		}
		x.wantKnown(t)
	}
	// What was written over with 0 is 0, as what never was written.
	x.must(t, 0, write(0, 5, 0), read(0, 5))
	x.wantKnown(t)
}

// An object that only another one leads to is the same as ever, whatever is allocated and popped meanwhile.
func TestObjectsWithoutHandles(t *testing.T) {
	x := newBoth(t, 2, 4, 10)
	x.must(t, 0, alloc(2, 0), alloc(0, 2), write(1, 0, 41), write(1, 1, 42), store(0, 1, 1), pop)
	for n := range 50 {
		x.must(t, 0, alloc(1, 3), write(1, 0, uint64(n)), store(0, 0, 1), pop)
		x.must(t, 1, alloc(0, 2), write(0, 0, 99), pop)
	}
	x.must(t, 0, alloc(0, 2), load(0, 1))
	for field, word := range []uint64{41, 42} {
		if a := x.do(t, 0, read(2, field)); a.Word != word {
			t.Errorf("field %d: %v", field, a)
		}
	}
	if a := x.do(t, 0, equal(1, 2)); a.Bit {
		t.Errorf("the new object is the old one: %v", a)
	}
	x.must(t, 0, load(0, 1))
	if a := x.do(t, 0, equal(2, 3)); !a.Bit {
		t.Errorf("one object, loaded twice, is two: %v", a)
	}
	x.must(t, 0, pop, pop, write(1, 0, 8))
	x.wantKnown(t)
	x.drain(t)
}

// A new object's fields are nil and 0, wherever others were written and popped ahead of it.
func TestNewObjectsAreEmpty(t *testing.T) {
	x := newBoth(t, 1, 3, 10)
	for range 20 {
		x.must(t, 0, alloc(2, 3))
		for field := range 3 {
			if a := x.do(t, 0, read(0, field)); a.Word != 0 {
				t.Fatalf("field %d: %v", field, a)
			}
		}
		for field := range 2 {
			x.must(t, 0, load(0, field))
			if a := x.do(t, 0, isNil(1)); !a.Bit {
				t.Fatalf("reference %d: %v", field, a)
			}
			x.must(t, 0, pop, store(0, field, 0))
		}
		x.must(t, 0, write(0, 0, 1), write(0, 2, 3))
		x.wantKnown(t)
		x.must(t, 0, pop)
	}
}

// A thread sends another one its only handle of an object, and pops it: the other one has it, and either may pop ahead of the other.
func TestHandlesSentBetweenThreads(t *testing.T) {
	for _, first := range []int{0, 1} {
		x := newBoth(t, 2, 2, 10)
		x.must(t, 0, alloc(1, 1), write(0, 0, 33), send(0, 1))
		x.must(t, first, pop)
		x.wantKnown(t)
		if a := x.do(t, 1-first, read(0, 0)); a.Code != api.OK || a.Word != 33 {
			t.Errorf("thread %d popped: %v", first, a)
		}
		x.must(t, 1-first, store(0, 0, 0), send(0, first), pop)
		x.must(t, first, load(0, 0))
		if a := x.do(t, first, equal(0, 1)); !a.Bit {
			t.Errorf("thread %d: %v", first, a)
		}
		x.drain(t)
	}
}

// What one thread stores and writes another one loads and reads.
func TestThreadsSeeEachOther(t *testing.T) {
	x := newBoth(t, 3, 3, 10)
	x.must(t, 0, alloc(2, 1), send(0, 1), send(0, 2))
	x.must(t, 1, alloc(0, 1), write(1, 0, 5), store(0, 1, 1), pop, pop)
	x.must(t, 2, load(0, 1))
	if a := x.do(t, 2, read(1, 0)); a.Word != 5 {
		t.Error(a)
	}
	x.must(t, 2, write(1, 0, 6), write(0, 0, 7))
	x.must(t, 0, load(0, 1))
	if a := x.do(t, 0, read(1, 0)); a.Word != 6 {
		t.Error(a)
	}
	if a := x.do(t, 0, read(0, 0)); a.Word != 7 {
		t.Error(a)
	}
	x.wantKnown(t)
	x.drain(t)
}

// A reference that is stored over leads to the new object alone; what it led to is the same for those that have it.
func TestReferencesStoredOver(t *testing.T) {
	x := newBoth(t, 1, 6, 10)
	x.must(t, 0, alloc(2, 1), alloc(0, 1), alloc(0, 1), null, write(1, 0, 1), write(2, 0, 2))
	for _, from := range []int{1, 2, 1, 3, 2, 0, 3, 3, 0, 1} {
		for field := range 2 {
			x.must(t, 0, store(0, field, from), load(0, field))
			if a := x.do(t, 0, equal(4, from)); !a.Bit {
				t.Errorf("reference %d is handle %d: %v", field, from, a)
			}
			x.must(t, 0, pop)
			x.wantKnown(t)
		}
	}
	x.drain(t)
}

// P13.3

// Shapes and words written out, each of a row of operations of two threads.
func TestShapesWrittenOut(t *testing.T) {
	for _, r := range []struct {
		name  string
		row   []step
		shape []uint64
		words int
	}{
		{"nothing", nil, []uint64{0, 0}, 0},
		{"nil alone", []step{{0, null}, {0, null}, {1, null}}, []uint64{2, 0, 0, 1, 0}, 0},
		{"one object", []step{{1, alloc(0, 1)}}, []uint64{0, 1, 1, 0, 1, 0}, 2},
		{"one object twice", []step{{0, alloc(1, 0)}, {0, dup(0)}, {0, send(0, 1)}}, []uint64{2, 1, 1, 1, 1, 1, 0, 0}, 2},
		{"an object that was popped", []step{{0, alloc(3, 3)}, {0, pop}}, []uint64{0, 0}, 0},
		{"itself", []step{{0, alloc(1, 0)}, {0, store(0, 0, 0)}}, []uint64{1, 1, 0, 1, 0, 1}, 2},
		{"itself, popped", []step{{0, alloc(1, 0)}, {0, store(0, 0, 0)}, {0, pop}}, []uint64{0, 0}, 0},
		{"a ring of two", []step{{0, alloc(1, 0)}, {0, alloc(1, 1)}, {0, store(0, 0, 1)}, {0, store(1, 0, 0)}, {0, write(1, 0, 9)}, {0, pop}}, []uint64{1, 1, 0, 1, 0, 2, 1, 1, 1, 9}, 5},
		{"a ring, popped", []step{{0, alloc(1, 0)}, {0, alloc(1, 1)}, {0, store(0, 0, 1)}, {0, store(1, 0, 0)}, {0, pop}, {0, pop}}, []uint64{0, 0}, 0},
		{"data that looks like references", []step{{0, alloc(0, 2)}, {0, alloc(0, 1)}, {0, write(0, 0, 1)}, {0, write(0, 1, 2)}, {0, pop}}, []uint64{1, 1, 0, 0, 2, 1, 2}, 3},
		{"one way and back", []step{{0, alloc(1, 0)}, {0, alloc(0, 1)}, {0, store(0, 0, 1)}, {0, null}, {0, store(0, 0, 2)}}, []uint64{3, 1, 2, 0, 0, 1, 0, 0, 0, 1, 0}, 4},
		// The handles of the second thread are numbered ahead of what the first thread's lead to.
		{"handles ahead", []step{{0, alloc(2, 0)}, {0, alloc(0, 1)}, {0, store(0, 0, 1)}, {0, write(1, 0, 8)}, {0, pop}, {1, alloc(0, 2)}}, []uint64{1, 1, 1, 2, 2, 0, 3, 0, 0, 2, 0, 0, 0, 1, 8}, 8},
		// What the first handle's object leads to is numbered ahead of what the second's leads to, and ahead of what it leads to itself.
		{"what follows", []step{
			{0, alloc(2, 0)}, {0, alloc(1, 0)}, // a and b
			{0, alloc(0, 1)}, {0, write(2, 0, 61)}, {0, store(1, 0, 2)}, {0, pop}, // b leads to c
			{0, alloc(1, 0)}, {0, alloc(0, 1)}, {0, write(3, 0, 62)}, {0, store(2, 0, 3)}, {0, pop}, {0, store(0, 1, 2)}, {0, pop}, // a leads to d, d to e
		}, []uint64{2, 1, 2, 0, 2, 0, 0, 3, 1, 0, 4, 1, 0, 5, 0, 1, 61, 0, 1, 62}, 3 + 2 + 2 + 2 + 2},
		{"the same by two ways", []step{{0, alloc(3, 0)}, {0, alloc(0, 1)}, {0, alloc(1, 0)}, {0, store(0, 2, 1)}, {0, store(0, 0, 2)}, {0, store(2, 0, 1)}, {0, pop}, {0, pop}, {1, null}}, []uint64{1, 1, 1, 0, 3, 0, 2, 0, 3, 1, 0, 3, 0, 1, 0}, 8},
	} {
		x := newBoth(t, 2, 4, 10)
		x.steps(t, r.row...)
		if s := x.g.Shape(); !slices.Equal(s, r.shape) {
			t.Errorf("%s: Shape %v, not %v", r.name, s, r.shape)
		}
		if n := x.g.Words(); n != r.words {
			t.Errorf("%s: Words %d, not %d", r.name, n, r.words)
		}
		x.wantKnown(t)
		x.drain(t)
	}
}

// A shape that was given is the caller's: what is done to it, and to its spare room, isn't done to the graph, and no later operation changes it.
func TestShapesAreNewMemory(t *testing.T) {
	for seed := range 10 {
		n := numbers(seed)
		x := newBoth(t, 3, 4, 7)
		var given, kept [][]uint64
		for round := range 400 {
			thread := n.below(3)
			x.do(t, thread, some(&n, x.m, thread))
			spoiled := x.g.Shape()
			spoiled = spoiled[:cap(spoiled)]
			for i := range spoiled {
				spoiled[i] = 77
			}
			x.wantKnown(t)
			if round%5 == 0 {
				shape := x.g.Shape()
				_ = append(shape, 78, 79)
				given, kept = append(given, shape), append(kept, slices.Clone(shape))
			}
		}
		for i := range given {
			if !slices.Equal(given[i], kept[i]) {
				t.Fatalf("%v was given, and is %v now", kept[i], given[i])
			}
		}
	}
}

// Two shapes of one graph are two lists.
func TestTwoShapesOfOneGraph(t *testing.T) {
	g := newGraph(t, 1, 2, 4)
	g.Do(0, alloc(0, 1))
	one, other := g.Shape(), g.Shape()
	one[0], one[1] = 50, 51
	_ = append(one, 52)
	if want := []uint64{1, 1, 0, 1, 0}; !slices.Equal(other, want) || !slices.Equal(g.Shape(), want) {
		t.Errorf("%v, %v", other, g.Shape())
	}
}

// Graphs have nothing to do with one another, alike or not.
func TestTwoGraphs(t *testing.T) {
	for seed := range 20 {
		n := numbers(seed)
		all := []*both{newBoth(t, 2, 3, 7), newBoth(t, 2, 3, 7), newBoth(t, 5, 2, 4)}
		for range 400 {
			x := pick(&n, all)
			thread := n.below(len(x.m.stacks))
			x.do(t, thread, some(&n, x.m, thread))
			for _, y := range all {
				y.wantKnown(t)
			}
		}
		all[0].drain(t)
		all[1].wantKnown(t)
		all[2].wantKnown(t)
	}
}

// Pointers to one graph lead to the same objects.
func TestOnePointerIsAnother(t *testing.T) {
	g := newGraph(t, 1, 2, 4)
	same := g
	g.Do(0, alloc(0, 1))
	same.Do(0, write(0, 0, 4))
	if a := g.Do(0, read(0, 0)); a != (api.Answer{Op: 2, Word: 4}) || same.Words() != 2 {
		t.Errorf("%v, Words %d", a, same.Words())
	}
}

// As many threads with as many handles as there may be, each an object of its own that leads to its neighbour's.
func TestTheMostHandles(t *testing.T) {
	x := newBoth(t, maxThreads, maxRoots, 5)
	for thread := range maxThreads {
		for n := range maxRoots {
			x.must(t, thread, alloc(1, 1), write(n, 0, uint64(100*thread+n)))
			if n > 0 {
				x.must(t, thread, store(n, 0, n-1))
			}
		}
		if a := x.do(t, thread, null); a.Code != api.ErrStack {
			t.Errorf("thread %d: %v", thread, a)
		}
	}
	x.wantKnown(t)
	if n := x.g.Words(); n != 3*maxThreads*maxRoots {
		t.Errorf("Words %d", n)
	}
}

// The greatest objects, as many as may have handles: Words tells them, though nobody could have room for so many.
func TestTheGreatestObjects(t *testing.T) {
	g := newGraph(t, maxThreads, maxRoots, maxSize)
	for thread := range maxThreads {
		for n := range maxRoots {
			refs := (thread*maxRoots + n) * 255
			if a := g.Do(thread, alloc(refs, maxSize-1-refs)); a.Code != api.OK {
				t.Fatalf("thread %d, object %d: %v", thread, n, a)
			}
			g.Do(thread, store(n, refs-1, 0))
			g.Do(thread, store(n, 0, n))
			g.Do(thread, write(n, maxSize-2-refs, 5))
		}
	}
	if n := g.Words(); n != maxThreads*maxRoots*maxSize {
		t.Errorf("Words %d", n)
	}
	if a := g.Do(63, read(63, maxSize-2-255*4095)); a != (api.Answer{Thread: 63, Op: 4 * maxRoots, Word: 5}) {
		t.Error(a)
	}
}

// One object of the greatest size, its first and last fields stored and read, and its shape, with all of it.
func TestOneGreatestObject(t *testing.T) {
	const refs, data = maxSize / 2, maxSize/2 - 1
	g := newGraph(t, 1, 3, maxSize)
	for _, o := range []api.Op{alloc(refs, data), store(0, 0, 0), alloc(0, 1), store(0, refs-1, 1), write(0, 0, 3), write(0, data-1, 4), pop} {
		if a := g.Do(0, o); a.Code != api.OK {
			t.Fatal(o, a)
		}
	}
	for _, o := range []api.Op{load(0, refs), store(0, refs, 0), read(0, data), write(0, data, 1)} {
		if a := g.Do(0, o); a.Code != api.ErrField {
			t.Error(o, a)
		}
	}
	want := make([]uint64, 4+refs+data+3)
	want[0], want[1], want[2], want[3] = 1, 1, refs, data
	want[4], want[4+refs-1] = 1, 2
	want[4+refs], want[4+refs+data-1] = 3, 4
	want[4+refs+data+1] = 1
	if s := g.Shape(); !slices.Equal(s, want) || g.Words() != maxSize+2 {
		t.Errorf("Shape of %d numbers, Words %d", len(s), g.Words())
	}
}

// A chain that no call may go down by calling itself for each link. The first handle's object holds its end.
func TestALongChain(t *testing.T) {
	const links = 300000
	g := newGraph(t, 1, 3, 4)
	g.Do(0, alloc(1, 0))
	for n := range links {
		for _, o := range []api.Op{alloc(1, 1), write(1, 0, uint64(n)), load(0, 0), store(1, 0, 2), store(0, 0, 1), pop, pop} {
			if a := g.Do(0, o); a.Code != api.OK {
				t.Fatal(n, o, a)
			}
		}
	}
	if n := g.Words(); n != 2+3*links {
		t.Errorf("Words %d", n)
	}
	want := []uint64{1, 1, 1, 0, 2}
	for n := links - 1; n >= 0; n-- {
		next := uint64(links - n + 2)
		if n == 0 {
			next = 0
		}
		want = append(want, 1, 1, next, uint64(n))
	}
	if s := g.Shape(); !slices.Equal(s, want) {
		t.Errorf("Shape of %d numbers, not of %d", len(s), len(want))
	}
	g.Do(0, pop)
	if g.Words() != 0 || !slices.Equal(g.Shape(), []uint64{0}) {
		t.Errorf("Words %d, Shape %v", g.Words(), g.Shape())
	}
}

// used is how many bytes the tests' own heap has, once what nobody has any more is gone.
func used() uint64 {
	var m runtime.MemStats
	runtime.GC()
	runtime.ReadMemStats(&m)
	return m.HeapAlloc
}

// What nothing leads to any more takes no room, in rings either, whatever handles it had, and however many more it was refused: kept, these would be some hundreds of millions of bytes.
func TestNoRoomForWhatIsLost(t *testing.T) {
	for _, row := range [][]step{
		{{0, alloc(2, 100)}, {0, alloc(2, 100)}, {0, store(0, 0, 1)}, {0, store(1, 0, 0)}, {0, store(0, 1, 0)}, {0, write(0, 9, 1)}, {0, write(1, 9, 1)}, {0, send(1, 1)}, {0, pop}, {0, pop}, {1, pop}},
		{{0, alloc(2, 100)}, {0, store(0, 0, 0)}, {0, write(0, 5, 6)}, {0, dup(0)}, {0, load(0, 0)}, {0, null}, {0, dup(0)}, {0, load(0, 0)}, {0, send(0, 0)}, {0, alloc(1, 1)}, {0, null}, {0, pop}, {0, pop}, {0, pop}, {0, pop}, {0, pop}},
		{{0, alloc(1, 100)}, {0, write(0, 7, 7)}, {1, alloc(1, 0)}, {1, send(0, 0)}, {0, store(1, 0, 0)}, {0, pop}, {0, pop}, {1, load(0, 0)}, {1, store(0, 0, 0)}, {1, pop}, {1, pop}},
	} {
		g := newGraph(t, 2, 4, 1000)
		was := used()
		for range 150000 {
			for _, s := range row {
				g.Do(s.thread, s.o)
			}
		}
		if now := used(); now > was+20<<20 {
			t.Errorf("%v: %d bytes are kept", row, now-was)
		}
		if s := g.Shape(); g.Words() != 0 || !slices.Equal(s, []uint64{0, 0}) {
			t.Errorf("%v: Words %d, Shape %v", row, g.Words(), s)
		}
	}
}

// The chapter's examples, in their order.
func TestExamples(t *testing.T) {
	g := newGraph(t, 1, 4, 100)
	for n, o := range []api.Op{alloc(2, 1), write(0, 0, 7), null, store(0, 1, 0)} {
		if a := g.Do(0, o); a != (api.Answer{Op: n}) {
			t.Errorf("%v: %v", o, a)
		}
	}
	if s := g.Shape(); !slices.Equal(s, []uint64{2, 1, 0, 2, 1, 0, 1, 7}) || g.Words() != 4 {
		t.Errorf("Shape %v, Words %d", s, g.Words())
	}
	for n, r := range []struct {
		o    api.Op
		want api.Answer
	}{
		{load(0, 1), api.Answer{}},
		{equal(0, 2), api.Answer{Bit: true}},
		{load(1, 0), api.Answer{Code: api.ErrNilRef}},
		{load(0, 2), api.Answer{Code: api.ErrField}},
		{read(9, 0), api.Answer{Code: api.ErrHandle}},
		{alloc(0, 0), api.Answer{Code: api.ErrSize}},
	} {
		r.want.Op = 4 + n
		if a := g.Do(0, r.o); a != r.want {
			t.Errorf("%v: %v, not %v", r.o, a, r.want)
		}
	}
}
