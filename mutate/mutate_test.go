package mutate_test

import (
	"math"
	"reflect"
	"slices"
	"strings"
	"testing"

	"gleaner/api"
	"gleaner/heap"
	"gleaner/mutate"
)

// isZero: is a result the zero one?
func isZero(r mutate.Result) bool {
	return reflect.DeepEqual(r, mutate.Result{})
}

// P15.1

// wantNew asks what New answers, and that it changes nothing.
func wantNew(t *testing.T, h *heap.Heap, thread int, s *mutate.Shared, want api.Errno) {
	t.Helper()
	m, e := mutate.New(h, thread, s)
	if e != want || (m == nil) != (want != api.OK) {
		t.Fatalf("New(%v, %d, %+v): %v, %v, not %v", h != nil, thread, s, m, e, want)
	}
	if m == nil {
		return
	}
	if !m.Idle() || !isZero(m.Step()) || !m.Idle() {
		t.Fatalf("a new mutator of the thread %d isn't idle", thread)
	}
	if a, e := m.Fail(); a != (api.Answer{}) || e != api.ErrShape {
		t.Fatalf("Fail of a new mutator: %v, %v", a, e)
	}
}

func TestNewOfNil(t *testing.T) {
	h := newRig(t, small()).h
	for _, thread := range append([]int{0, 1, 2}, far...) {
		for _, old := range [][][]api.Ref{nil, make([][]api.Ref, 1), make([][]api.Ref, 2), make([][]api.Ref, 3)} {
			wantNew(t, nil, thread, &mutate.Shared{Old: old}, api.ErrNil)
			wantNew(t, nil, thread, nil, api.ErrNil)
			wantNew(t, h, thread, nil, api.ErrNil)
		}
	}
}

func TestNewOfEachThread(t *testing.T) {
	for _, threads := range []int{1, 2, 3, 63, 64} {
		c := small()
		c.Threads = threads
		x := newRig(t, c)
		for _, thread := range append([]int{-threads, 0, threads / 2, threads - 1, threads, threads + 1, 64, 65}, far...) {
			want := api.ErrRange
			if thread >= 0 && thread < threads {
				want = api.OK
			}
			wantNew(t, x.h, thread, x.s, want)
		}
		x.wantSame(t)
	}
}

func TestNewOfOtherLists(t *testing.T) {
	for _, threads := range []int{1, 2, 5, 64} {
		c := small()
		c.Threads = threads
		x := newRig(t, c)
		for lists := range threads + 4 {
			want := api.ErrRange
			if lists == threads {
				want = api.OK
			}
			wantNew(t, x.h, threads-1, &mutate.Shared{Old: make([][]api.Ref, lists), Marking: true}, want)
			wantNew(t, x.h, threads, &mutate.Shared{Old: make([][]api.Ref, lists)}, api.ErrRange)
		}
		wantNew(t, x.h, 0, &mutate.Shared{}, api.ErrRange)
	}
}

func TestNilMutator(t *testing.T) {
	var m *mutate.Mutator
	for range 2 {
		if m.Idle() || !isZero(m.Step()) {
			t.Fatal("a nil mutator is idle, or steps")
		}
		for kind := range api.OpKind(15) {
			if e := m.Start(api.Op{Kind: kind}); e != api.ErrNil {
				t.Fatalf("Start of a nil mutator: %v", e)
			}
		}
		if a, e := m.Fail(); a != (api.Answer{}) || e != api.ErrNil {
			t.Fatalf("Fail of a nil mutator: %v, %v", a, e)
		}
	}
}

// P15.2

// stage has thread 0 come to a heap with an object of two references and two data words (handle 0), nil (1) and a big object (2); thread 1 has the first one, too (0), and one of its own (1).
func stage(t *testing.T, c api.Config) *rig {
	t.Helper()
	x := newRig(t, c)
	x.must(t, 0, alloc(2, 2), null, alloc(50, 10), write(0, 1, 9), store(0, 1, 0), send(0, 1))
	x.must(t, 1, alloc(1, 1), write(1, 0, 8))
	x.wantSound(t)
	x.wantDrained(t)
	return x
}

func TestStage(t *testing.T) {
	x := stage(t, small())
	if s, e := x.h.Shape(); !slices.Equal(s[:9], []uint64{3, 1, 0, 2, 2, 1, 3, 2, 2}) || e != api.OK {
		t.Fatal(s, e)
	}
	if l := x.h.Roots[0].List(); !slices.Equal(l, []api.Ref{1, 0, 65}) {
		t.Fatal(l)
	}
	if l := x.h.Roots[1].List(); !slices.Equal(l, []api.Ref{1, 129}) {
		t.Fatal(l)
	}
	if l := x.h.Regions.List(api.Eden); !slices.Equal(l, []int{0, 2}) {
		t.Fatal(l)
	}
}

// each is operations of all kinds, each with its answer in the staged heap, and its steps there.
var each = []struct {
	o     api.Op
	want  api.Answer
	steps string
}{
	{alloc(1, 1), api.Answer{}, "bd"},
	{alloc(0, 1), api.Answer{}, "bd"},
	{alloc(1, 0), api.Answer{}, "bd"},
	{alloc(0, 40), api.Answer{}, "bd"},
	{alloc(100, 40), api.Answer{}, "bd"},
	{alloc(0, 0), api.Answer{Code: 13}, "d"},
	{alloc(-1, 2), api.Answer{Code: 13}, "d"},
	{alloc(2, -1), api.Answer{Code: 13}, "d"},
	{alloc(0, 320), api.Answer{Code: 13}, "d"},
	{alloc(320, 0), api.Answer{Code: 13}, "d"},
	{alloc(20, 299), api.Answer{}, "w"},
	{load(0, 0), api.Answer{}, "bd"},
	{load(0, 1), api.Answer{}, "bd"},
	{load(2, 49), api.Answer{}, "bd"},
	{load(0, 2), api.Answer{Code: 11}, "d"},
	{load(0, -1), api.Answer{Code: 11}, "d"},
	{load(2, 50), api.Answer{Code: 11}, "d"},
	{load(1, 0), api.Answer{Code: 12}, "d"},
	{load(3, 0), api.Answer{Code: 10}, "d"},
	{load(-1, 0), api.Answer{Code: 10}, "d"},
	{store(0, 0, 0), api.Answer{}, "bd"},
	{store(0, 1, 1), api.Answer{}, "bd"},
	{store(0, 0, 2), api.Answer{}, "bd"},
	{store(2, 0, 2), api.Answer{}, "bd"},
	{store(2, 49, 1), api.Answer{}, "bd"},
	{store(2, 49, 0), api.Answer{}, "bD-"},
	{store(0, 2, 0), api.Answer{Code: 11}, "d"},
	{store(0, -1, 0), api.Answer{Code: 11}, "d"},
	{store(1, 0, 0), api.Answer{Code: 12}, "d"},
	{store(1, 0, 3), api.Answer{Code: 10}, "d"},
	{store(3, 0, 0), api.Answer{Code: 10}, "d"},
	{store(0, 0, -1), api.Answer{Code: 10}, "d"},
	{read(0, 0), api.Answer{}, "bd"},
	{read(0, 1), api.Answer{Word: 9}, "bd"},
	{read(2, 9), api.Answer{}, "bd"},
	{read(0, 2), api.Answer{Code: 11}, "d"},
	{read(0, -1), api.Answer{Code: 11}, "d"},
	{read(1, 0), api.Answer{Code: 12}, "d"},
	{read(3, 0), api.Answer{Code: 10}, "d"},
	{write(0, 0, math.MaxUint64), api.Answer{}, "bd"},
	{write(0, 1, 0), api.Answer{}, "bd"},
	{write(2, 9, 5), api.Answer{}, "bd"},
	{write(2, 10, 5), api.Answer{Code: 11}, "d"},
	{write(0, -1, 5), api.Answer{Code: 11}, "d"},
	{write(1, 0, 5), api.Answer{Code: 12}, "d"},
	{write(-1, 0, 5), api.Answer{Code: 10}, "d"},
	{null, api.Answer{}, "d"},
	{pop, api.Answer{}, "d"},
	{dup(0), api.Answer{}, "d"},
	{dup(1), api.Answer{}, "d"},
	{dup(3), api.Answer{Code: 10}, "d"},
	{equal(0, 0), api.Answer{Bit: true}, "d"},
	{equal(1, 1), api.Answer{Bit: true}, "d"},
	{equal(0, 2), api.Answer{}, "d"},
	{equal(1, 2), api.Answer{}, "d"},
	{equal(3, 0), api.Answer{Code: 10}, "d"},
	{equal(0, 3), api.Answer{Code: 10}, "d"},
	{equal(3, 3), api.Answer{Code: 10}, "d"},
	{isNil(0), api.Answer{}, "d"},
	{isNil(1), api.Answer{Bit: true}, "d"},
	{isNil(3), api.Answer{Code: 10}, "d"},
	{poll, api.Answer{}, "d"},
	{collect(0), api.Answer{}, "d"},
	{collect(3), api.Answer{}, "d"},
	{collect(4), api.Answer{Code: 17}, "d"},
	{collect(-1), api.Answer{Code: 17}, "d"},
	{send(0, 0), api.Answer{}, "d"},
	{send(0, 1), api.Answer{}, "d"},
	{send(1, 1), api.Answer{}, "d"},
	{send(3, 1), api.Answer{Code: 10}, "d"},
	{send(0, 2), api.Answer{Code: 2}, "d"},
	{send(0, -1), api.Answer{Code: 2}, "d"},
	{send(3, 2), api.Answer{Code: 10}, "d"},
	{api.Op{}, api.Answer{Code: 17}, "d"},
	{api.Op{Kind: 14}, api.Answer{Code: 17}, "d"},
	{api.Op{Kind: -1}, api.Answer{Code: 17}, "d"},
}

// Each operation with its answer and its steps; of a mutator that is idle again, a step does nothing.
func TestEachOperation(t *testing.T) {
	for _, k := range each {
		x := stage(t, small())
		a, steps := x.do(t, 0, k.o)
		if k.want != (api.Answer{}) || steps != "w" {
			k.want.Op = 6
		}
		if a != k.want || steps != k.steps {
			t.Fatalf("%+v: %+v, steps %s; not %+v, steps %s", k.o, a, steps, k.want, k.steps)
		}
		x.wantSound(t)
		if steps == "w" {
			continue
		}
		for range 3 {
			if r := x.step(t, 0); !isZero(r) {
				t.Fatalf("%+v: a step of an idle mutator: %+v", k.o, r)
			}
		}
		if a := x.want(t, 0, poll, api.OK, "d"); a.Op != 7 {
			t.Fatalf("%+v: the next one is %+v", k.o, a)
		}
	}
}

// Marking changes the steps of stores alone.
func TestEachOperationWhileAMarkingGoesOn(t *testing.T) {
	for _, k := range each {
		x := stage(t, small())
		x.marking(true)
		if k.o.Kind == api.OpStore {
			k.steps = strings.Replace(k.steps, "b", "bb", 1)
		}
		if a, steps := x.do(t, 0, k.o); a.Code != k.want.Code || a.Word != k.want.Word || a.Bit != k.want.Bit || steps != k.steps {
			t.Fatalf("%+v: %+v, steps %s; not %+v, steps %s", k.o, a, steps, k.want, k.steps)
		}
	}
}

// What a refused operation may not change: anything.
func TestRefusedOperationsChangeNothing(t *testing.T) {
	for _, k := range each {
		if k.want.Code == api.OK {
			continue
		}
		x, y := stage(t, small()), stage(t, small())
		x.marking(true)
		y.marking(true)
		x.do(t, 0, k.o)
		y.p.turns[0].done++ // only that it was done is to be seen
		x.p, y.p = y.p, x.p
		x.wantSame(t)
	}
}

// Start is refused wherever an operation is, and this goes on as if it hadn't been called.
func TestStartWhileAnOperationGoesOn(t *testing.T) {
	for _, marking := range []bool{false, true} {
		for _, k := range each {
			x := stage(t, small())
			x.marking(marking)
			x.start(t, 0, k.o)
			for n := 0; n == 0 || !x.m[0].Idle() && n < 9; n++ {
				for _, o := range []api.Op{poll, pop, k.o, {}, write(0, 0, 1)} {
					if e := x.m[0].Start(o); e != api.ErrShape {
						t.Fatalf("%+v: Start behind %d steps: %v", k.o, n, e)
					}
				}
				x.wantSame(t)
				x.step(t, 0)
			}
			// The other thread doesn't mind.
			x.want(t, 1, poll, api.OK, "d")
		}
	}
}

// An operation that was started and not stepped has done nothing, whatever it is.
func TestStartDoesNothing(t *testing.T) {
	for _, k := range each {
		x := stage(t, small())
		ahead := x.h.Arena.Accesses()
		x.start(t, 0, k.o)
		if x.h.Arena.Accesses() != ahead || x.m[0].Idle() {
			t.Fatalf("%+v: Idle %v", k.o, x.m[0].Idle())
		}
		x.wantSame(t)
		x.wantSound(t)
	}
}

// Operations are counted by threads, refused ones and failed ones too.
func TestOperationsAreCounted(t *testing.T) {
	x := newRig(t, small())
	for n := range 20 {
		for _, i := range []int{0, 1, 1} {
			o := []api.Op{poll, pop, {}, alloc(0, 0), load(0, 0)}[n%5]
			if a, _ := x.do(t, i, o); a.Thread != i || a.Op != x.p.turns[i].done-1 {
				t.Fatalf("%+v: %+v", o, a)
			}
		}
	}
	if x.p.turns[0].done != 20 || x.p.turns[1].done != 40 {
		t.Fatal(x.p.turns)
	}
	x.want(t, 0, alloc(0, 319), 0, "bd")
	x.want(t, 0, alloc(0, 319), 0, "w")
	if a, e := x.fail(t, 0); a != (api.Answer{Op: 21, Code: 16}) || e != api.OK {
		t.Fatal(a, e)
	}
	if a := x.want(t, 0, poll, api.OK, "d"); a != (api.Answer{Op: 22}) {
		t.Fatal(a)
	}
}

// Where several errors apply, the table's first one is answered; each handle, index and size about its bounds, with a stack that is full or not.
func TestOrderOfErrors(t *testing.T) {
	numbers := []int{-1, 0, 1, 2, 3, 4, 5, 50, 62}
	for _, full := range []bool{false, true} {
		x := stage(t, small())
		for kind := range api.OpKind(15) {
			for _, a := range numbers {
				for _, b := range numbers {
					for _, c := range []int{-1, 0, 1, 4} {
						o := api.Op{Kind: kind, A: a, B: b, C: c, V: 7}
						if !full && changes(o) {
							x = stage(t, small())
						}
						if full {
							fill(t, x)
						}
						x.do(t, 0, o)
						x.wantQueue(t, slices.Concat(x.p.common, slices.Concat(x.p.local...))...)
					}
				}
			}
		}
		x.wantSound(t)
	}
}

// changes: does an operation of the kind change handles?
func changes(o api.Op) bool {
	return slices.Contains([]api.OpKind{1, 2, 6, 7, 8, 13}, o.Kind)
}

// fill makes the stacks of both threads full.
func fill(t *testing.T, x *rig) {
	t.Helper()
	for i := range 2 {
		for len(x.p.handles[i]) < x.p.c.Roots {
			x.must(t, i, null)
		}
	}
}

// Codes of operations for which several errors apply, written out.
func TestOrderOfErrorsWrittenOut(t *testing.T) {
	x := stage(t, small())
	fill(t, x)
	for _, k := range []struct {
		o    api.Op
		code api.Errno
	}{
		{alloc(0, 0), 13}, {alloc(-1, -1), 13}, {alloc(0, 320), 13}, {alloc(1, 1), 15}, {alloc(0, 319), 15},
		{load(4, -1), 10}, {load(1, -1), 12}, {load(0, 2), 11}, {load(0, 1), 15},
		{store(4, 9, 4), 10}, {store(1, 9, 4), 10}, {store(0, 9, 4), 10}, {store(4, 9, 1), 10}, {store(1, 9, 1), 12}, {store(0, 9, 1), 11},
		{read(4, 9), 10}, {read(1, 9), 12}, {read(0, 9), 11}, {write(4, 9, 1), 10}, {write(1, 9, 1), 12}, {write(0, 9, 1), 11},
		{null, 15}, {dup(4), 10}, {dup(0), 15}, {equal(4, 4), 10}, {isNil(4), 10},
		{send(4, 2), 10}, {send(0, 2), 2}, {send(0, 1), 15}, {send(0, 0), 15}, {send(4, 0), 10},
		{collect(5), 17}, {api.Op{Kind: 99}, 17},
	} {
		if a, _ := x.do(t, 0, k.o); a.Code != k.code {
			t.Fatalf("%+v: %v, not %v", k.o, a, k.code)
		}
	}
	for range 4 {
		x.must(t, 0, pop)
	}
	x.want(t, 0, pop, api.ErrEmpty, "d")
	x.want(t, 0, store(0, 0, 0), api.ErrHandle, "d")
}

// Numbers from all over, in each place of each kind.
func TestFarNumbers(t *testing.T) {
	kinds := []api.OpKind{1, 2, 3, 4, 5, 8, 9, 10, 12, 13}
	x := stage(t, small())
	for _, n := range far {
		for _, kind := range kinds {
			for _, o := range []api.Op{
				{Kind: kind, A: n}, {Kind: kind, A: 2, B: n}, {Kind: kind, A: n, B: n}, {Kind: kind, A: n, B: -n}, {Kind: kind, A: n, B: -n - 1}, {Kind: kind, A: -n, B: n - 1},
				{Kind: kind, A: 2, B: 1, C: n}, {Kind: kind, A: n, B: n, C: n}, {Kind: kind, A: math.MaxInt, B: n}, {Kind: kind, A: n, B: math.MaxInt},
			} {
				if o.Kind == api.OpAlloc && o.A == 2 && o.B >= 0 && o.B < 9 {
					continue
				}
				a, steps := x.do(t, 0, o)
				if a.Code == api.OK {
					continue // the model and the graph say so, too
				}
				if steps != "d" {
					t.Fatalf("%+v: %v, steps %s", o, a, steps)
				}
			}
			for len(x.p.handles[0]) > 3 {
				x.must(t, 0, pop)
			}
			for len(x.p.handles[1]) > 2 {
				x.must(t, 1, pop)
			}
		}
		x.want(t, 0, api.Op{Kind: api.OpKind(n)}, api.ErrKind, "d")
		x.want(t, 0, api.Op{Kind: api.OpKind(n), A: n, B: n, C: n, V: uint64(n)}, api.ErrKind, "d")
	}
	x.wantSound(t)
}

// V is written by OpWrite alone, and of all bits.
func TestWordsKeepTheirBits(t *testing.T) {
	x := stage(t, small())
	for bit := range 64 {
		w := uint64(1) << uint(bit)
		x.must(t, 0, write(0, 0, w), write(0, 1, ^w))
		for field, want := range []uint64{w, ^w} {
			if a := x.want(t, 0, read(0, field), api.OK, "bd"); a.Word != want {
				t.Fatalf("%x: %x", want, a.Word)
			}
		}
	}
	x.wantSound(t)
}

// OpEqual of two objects that are alike.
func TestAlikeIsNotEqual(t *testing.T) {
	x := newRig(t, small())
	x.must(t, 0, alloc(1, 1), alloc(1, 1), dup(1))
	for _, k := range []struct {
		o   api.Op
		bit bool
	}{{equal(0, 1), false}, {equal(1, 2), true}, {equal(2, 0), false}, {equal(0, 0), true}, {isNil(2), false}} {
		if a := x.want(t, 0, k.o, api.OK, "d"); a.Bit != k.bit {
			t.Fatalf("%+v: %+v", k.o, a)
		}
	}
}

// A heap that isn't sound any more: what a handle leads to is no object, or reaches behind the last word. The error is answered, nothing panics and nothing is changed.
func TestBrokenHeaps(t *testing.T) {
	ops := []api.Op{load(0, 0), store(0, 0, 1), read(0, 0), write(0, 0, 1)}
	for _, k := range []struct {
		r     api.Ref
		word  uint64
		code  api.Errno
		steps string
	}{
		{384, 0, api.ErrBroken, "d"}, {384, 4, api.ErrBroken, "d"}, {384, 2 + 4, api.ErrBroken, "d"}, {384, 3 + 4, api.ErrBroken, "d"},
		{385, 0, api.ErrRange, "d"}, {math.MaxUint64, 0, api.ErrRange, "d"}, {1 << 63, 0, api.ErrRange, "d"},
		{384, object(3, 1), api.ErrRange, "bd"},
	} {
		for _, marking := range []bool{false, true} {
			for _, o := range ops {
				x := newRig(t, small())
				x.h.Roots[0].Push(k.r)
				x.h.Roots[0].Push(1)
				x.h.Arena.Store(383, k.word)
				x.s.Marking = marking
				x.m[0].Start(o)
				steps := ""
				var r mutate.Result
				for !x.m[0].Idle() {
					r = x.m[0].Step()
					steps += told(r)
				}
				if k.steps == "bd" && o.Kind == api.OpStore && marking {
					steps = strings.Replace(steps, "bb", "b", 1)
				}
				if r.Answer != (api.Answer{Code: k.code}) || steps != k.steps || x.h.Roots[0].Len() != 2 || len(x.s.Old[0]) != 0 || len(x.h.Cards.List()) != 0 {
					t.Fatalf("%+v: %+v: %+v, steps %s", k, o, r, steps)
				}
			}
		}
	}
}

// A handle that others took away between a store's steps: nothing is written.
func TestHandleThatIsGone(t *testing.T) {
	x := stage(t, small())
	x.start(t, 0, store(0, 1, 2))
	x.step(t, 0)
	x.h.Roots[0].Pop()
	if r := x.m[0].Step(); r.Answer != (api.Answer{Op: 6, Code: api.ErrHandle}) || told(r) != "d" || !x.m[0].Idle() {
		t.Fatalf("%+v", r)
	}
	x.wantWords(t)
	x.wantCards(t)
}
