package roots_test

import (
	"math"
	"slices"
	"testing"

	"gleaner/api"
	"gleaner/roots"
)

// maxRoots is the greatest bound, written out, so that the tests don't lean on what the package leans on.
const maxRoots = 64

// far are numbers at both ends of what an int can be, and such as sums, products and narrowings make right ones of.
var far = []int{
	math.MinInt, math.MinInt + 1, math.MinInt + 2, math.MinInt + 63, math.MinInt + 64, math.MinInt + 65, -1 << 62, -1 << 61, 1 - 1<<61, -1<<32 - 1, -1 << 32, 1 - 1<<32, 64 - 1<<32, -1<<31 - 1, -1 << 31, 1 - 1<<31,
	-1 << 16, 1 - 1<<16, -257, -256, -255, -192, -129, -128, -127, -66, -65, -64, -63, -33, -32, -3, -2, -1,
	65, 66, 127, 128, 129, 192, 255, 256, 257, 258, 320, 1<<16 - 1, 1 << 16, 1<<16 + 1, 1<<31 - 1, 1 << 31, 1<<32 - 1, 1 << 32, 1<<32 + 1, 1<<32 + 2, 1<<32 + 63, 1<<32 + 64, 1 << 58, 1<<58 + 1, 1 << 60, 1<<60 + 1, 1 << 61, 1<<61 + 1, 1 << 62, 1<<62 + 1,
	math.MaxInt - 65, math.MaxInt - 64, math.MaxInt - 63, math.MaxInt - 2, math.MaxInt - 1, math.MaxInt,
}

// refs are references of each kind: nil, small ones, each bit alone, each bit missing, and those about the bounds that a narrower number has.
func refs() []api.Ref {
	all := []api.Ref{0, 1, 2, 5, 1<<22 + 1, 1<<31 - 1, 1<<32 - 1, 1<<32 + 1, 1<<53 + 1, 1<<63 - 1, 1<<63 + 1, math.MaxUint64 - 1, math.MaxUint64}
	for bit := range 64 {
		all = append(all, 1<<bit, ^(1 << bit))
	}
	return all
}

// model is the plainest stack: an array that holds the most handles, and how many of them there are. It is a value, so that what it was stays as it was.
type model struct {
	bound, count int
	refs         [maxRoots]api.Ref
}

func (m *model) has(i int) bool {
	for place := range m.count {
		if place == i {
			return true
		}
	}
	return false
}

func (m *model) at(i int) (api.Ref, api.Errno) {
	if !m.has(i) {
		return 0, api.ErrHandle
	}
	return m.refs[i], api.OK
}

func (m *model) set(i int, r api.Ref) api.Errno {
	if !m.has(i) {
		return api.ErrHandle
	}
	m.refs[i] = r
	return api.OK
}

func (m *model) push(r api.Ref) api.Errno {
	if m.count == m.bound {
		return api.ErrStack
	}
	m.refs[m.count] = r
	m.count++
	return api.OK
}

func (m *model) pop() (api.Ref, api.Errno) {
	if m.count == 0 {
		return 0, api.ErrEmpty
	}
	m.count--
	return m.refs[m.count], api.OK
}

func (m *model) list() []api.Ref {
	return slices.Clone(m.refs[:m.count])
}

// both are a stack and its model.
type both struct {
	s *roots.Stack
	m model
}

func newBoth(t *testing.T, bound int) *both {
	t.Helper()
	s, e := roots.New(bound)
	if s == nil || e != api.OK {
		t.Fatalf("New(%d): %v, %v", bound, s, e)
	}
	return &both{s, model{bound: bound}}
}

// wantKnown holds all that a stack tells of itself against the model, twice, since telling may change nothing.
func (x *both) wantKnown(t *testing.T) {
	t.Helper()
	for range 2 {
		if n := x.s.Len(); n != x.m.count {
			t.Fatalf("%v of %d: Len %d", x.m.list(), x.m.bound, n)
		}
		if n := x.s.Room(); n != x.m.bound-x.m.count {
			t.Fatalf("%v of %d: Room %d", x.m.list(), x.m.bound, n)
		}
		if list := x.s.List(); !slices.Equal(list, x.m.list()) {
			t.Fatalf("%v of %d: List %v", x.m.list(), x.m.bound, list)
		}
		for i := -2; i < x.m.bound+2; i++ {
			x.at(t, i)
		}
	}
}

func (x *both) at(t *testing.T, i int) {
	t.Helper()
	want, wantE := x.m.at(i)
	if r, e := x.s.At(i); r != want || e != wantE {
		t.Fatalf("%v of %d: At(%d): %d, %v, not %d, %v", x.m.list(), x.m.bound, i, r, e, want, wantE)
	}
}

func (x *both) set(t *testing.T, i int, r api.Ref) {
	t.Helper()
	was := x.m
	want := x.m.set(i, r)
	if e := x.s.Set(i, r); e != want {
		t.Fatalf("%v of %d: Set(%d, %d): %v, not %v", was.list(), was.bound, i, r, e, want)
	}
}

func (x *both) push(t *testing.T, r api.Ref) {
	t.Helper()
	was := x.m
	want := x.m.push(r)
	if e := x.s.Push(r); e != want {
		t.Fatalf("%v of %d: Push(%d): %v, not %v", was.list(), was.bound, r, e, want)
	}
}

func (x *both) pop(t *testing.T) {
	t.Helper()
	was := x.m
	want, wantE := x.m.pop()
	if r, e := x.s.Pop(); r != want || e != wantE {
		t.Fatalf("%v of %d: Pop: %d, %v, not %d, %v", was.list(), was.bound, r, e, want, wantE)
	}
}

// fill pushes numbers, counted on from one, till there are so many handles.
func (x *both) fill(t *testing.T, count int, from api.Ref) {
	t.Helper()
	for range count - x.m.count {
		x.push(t, from)
		from++
	}
}

// refuse makes each kind of call that may not be done now, and asks that none of them changes anything.
func (x *both) refuse(t *testing.T) {
	t.Helper()
	count := x.m.count
	for _, i := range append([]int{-1, count, count + 1, x.m.bound, -count, ^count, math.MaxInt - count, math.MinInt + count, count + 256, count - 1 + 1<<32}, far...) {
		if x.m.has(i) {
			continue
		}
		x.at(t, i)
		x.set(t, i, 77)
		x.set(t, i, 0)
	}
	if count == x.m.bound {
		x.push(t, 78)
		x.push(t, 0)
		x.push(t, math.MaxUint64)
	}
	if count == 0 {
		x.pop(t)
	}
	x.wantKnown(t)
}

// finish pops till there is nothing left, and fills the stack once more.
func (x *both) finish(t *testing.T) {
	t.Helper()
	for x.m.count > 0 {
		x.pop(t)
	}
	x.refuse(t)
	x.fill(t, x.m.bound, 900)
	x.refuse(t)
}

// P12.1

// Each bound about those that may be, and the far ones.
func TestNewOfEachBound(t *testing.T) {
	bounds := slices.Clone(far)
	for n := -300; n <= 300; n++ {
		bounds = append(bounds, n)
	}
	for _, bound := range bounds {
		if bound > 0 && bound < 65 {
			x := newBoth(t, bound)
			x.refuse(t)
			x.finish(t)
			continue
		}
		if s, e := roots.New(bound); s != nil || e != api.ErrRange {
			t.Errorf("New(%d): %v, %v", bound, s, e)
		}
	}
}

// The edges that the promise names, each with its answer written out.
func TestNewAtTheEdges(t *testing.T) {
	for _, r := range []struct {
		bound int
		e     api.Errno
		room  int
	}{
		{-1, api.ErrRange, 0},
		{0, api.ErrRange, 0},
		{1, api.OK, 1},
		{2, api.OK, 2},
		{63, api.OK, 63},
		{64, api.OK, 64},
		{65, api.ErrRange, 0},
		{66, api.ErrRange, 0},
		{-64, api.ErrRange, 0},
		{math.MaxInt, api.ErrRange, 0},
		{math.MinInt, api.ErrRange, 0},
		// Of these the lowest bits alone are right.
		{257, api.ErrRange, 0},
		{1<<16 + 1, api.ErrRange, 0},
		{1<<32 + 1, api.ErrRange, 0},
		{1<<32 + 64, api.ErrRange, 0},
		{1 - 1<<32, api.ErrRange, 0},
		{math.MinInt + 64, api.ErrRange, 0},
	} {
		s, e := roots.New(r.bound)
		if e != r.e || (s != nil) != (r.e == api.OK) {
			t.Errorf("New(%d): %v, %v", r.bound, s, e)
		}
		if s.Len() != 0 || s.Room() != r.room || len(s.List()) != 0 {
			t.Errorf("New(%d): Len %d, Room %d, List %v", r.bound, s.Len(), s.Room(), s.List())
		}
	}
}

// Each call of a nil stack, and of what a refused New gives: that it is nil is told ahead of any other fault.
func TestNilStack(t *testing.T) {
	var none *roots.Stack
	refused, _ := roots.New(0)
	for _, s := range []*roots.Stack{none, refused} {
		for range 2 {
			if s.Len() != 0 || s.Room() != 0 || len(s.List()) != 0 {
				t.Errorf("Len %d, Room %d, List %v", s.Len(), s.Room(), s.List())
			}
			if r, e := s.Pop(); r != 0 || e != api.ErrNil {
				t.Errorf("Pop: %d, %v", r, e)
			}
			for _, i := range append([]int{0, 1, 2, 63, 64}, far...) {
				if r, e := s.At(i); r != 0 || e != api.ErrNil {
					t.Errorf("At(%d): %d, %v", i, r, e)
				}
				for _, r := range []api.Ref{0, 1, 9, math.MaxUint64} {
					if e := s.Set(i, r); e != api.ErrNil {
						t.Errorf("Set(%d, %d): %v", i, r, e)
					}
				}
			}
			for _, r := range refs() {
				if e := s.Push(r); e != api.ErrNil {
					t.Errorf("Push(%d): %v", r, e)
				}
			}
		}
	}
}

// P12.2

// A stack of each bound with each number of handles: each place is asked and set, those that are no handle's too.
func TestEachPlaceOfEachStack(t *testing.T) {
	for bound := 1; bound <= maxRoots; bound++ {
		x := newBoth(t, bound)
		for count := range bound + 1 {
			x.fill(t, count, api.Ref(1000*count))
			for i := -3; i < bound+3; i++ {
				x.at(t, i)
				x.set(t, i, api.Ref(100*count+i))
				x.at(t, i)
			}
			x.wantKnown(t)
		}
	}
}

// In each state calls that may not be done change nothing, be the stack filled or popped to be so.
func TestRefusalsInEachState(t *testing.T) {
	for _, bound := range []int{1, 2, 3, 4, 5, 8, 31, 32, 33, 63, 64} {
		x := newBoth(t, bound)
		for count := range bound + 1 {
			x.fill(t, count, 5)
			x.refuse(t)
		}
		for range bound {
			x.pop(t)
			x.refuse(t)
		}
		x.finish(t)
	}
}

// Handles about the edges, each with its answer written out: of a stack with room for four, the references 10, 11 and 12, and one that was popped.
func TestHandlesAtTheEdges(t *testing.T) {
	for _, r := range []struct {
		i    int
		ref  api.Ref
		e    api.Errno
		list []api.Ref
	}{
		{-2, 0, api.ErrHandle, []api.Ref{10, 11, 12}},
		{-1, 0, api.ErrHandle, []api.Ref{10, 11, 12}},
		{0, 10, api.OK, []api.Ref{99, 11, 12}},
		{1, 11, api.OK, []api.Ref{10, 99, 12}},
		{2, 12, api.OK, []api.Ref{10, 11, 99}},
		{3, 0, api.ErrHandle, []api.Ref{10, 11, 12}},
		{4, 0, api.ErrHandle, []api.Ref{10, 11, 12}},
		{63, 0, api.ErrHandle, []api.Ref{10, 11, 12}},
		{64, 0, api.ErrHandle, []api.Ref{10, 11, 12}},
		{256, 0, api.ErrHandle, []api.Ref{10, 11, 12}},
		{1 << 32, 0, api.ErrHandle, []api.Ref{10, 11, 12}},
		{1<<32 + 1, 0, api.ErrHandle, []api.Ref{10, 11, 12}},
		{-1 << 32, 0, api.ErrHandle, []api.Ref{10, 11, 12}},
		{1 << 61, 0, api.ErrHandle, []api.Ref{10, 11, 12}},
		{1<<61 + 1, 0, api.ErrHandle, []api.Ref{10, 11, 12}},
		{math.MaxInt, 0, api.ErrHandle, []api.Ref{10, 11, 12}},
		{math.MinInt, 0, api.ErrHandle, []api.Ref{10, 11, 12}},
		{math.MinInt + 2, 0, api.ErrHandle, []api.Ref{10, 11, 12}},
	} {
		s, _ := roots.New(4)
		for ref := api.Ref(10); ref < 14; ref++ {
			s.Push(ref)
		}
		s.Pop()
		if ref, e := s.At(r.i); ref != r.ref || e != r.e {
			t.Errorf("At(%d): %d, %v", r.i, ref, e)
		}
		if e := s.Set(r.i, 99); e != r.e || !slices.Equal(s.List(), r.list) || s.Len() != 3 || s.Room() != 1 {
			t.Errorf("Set(%d, 99): %v; List %v, Len %d, Room %d", r.i, e, s.List(), s.Len(), s.Room())
		}
	}
}

// The pushes up to the one that fills a stack, those behind it, and those behind one pop and several; the answers are written out.
func TestPushIntoAFullStack(t *testing.T) {
	for bound := 1; bound <= maxRoots; bound++ {
		s, _ := roots.New(bound)
		for n := range bound {
			if e := s.Push(api.Ref(n)); e != api.OK || s.Len() != n+1 || s.Room() != bound-n-1 {
				t.Fatalf("bound %d, push %d: %v; Len %d, Room %d", bound, n, e, s.Len(), s.Room())
			}
		}
		for popped := range bound + 1 {
			for range 3 {
				if e := s.Push(5000); e != api.ErrStack || s.Len() != bound || s.Room() != 0 {
					t.Fatalf("bound %d, one more: %v; Len %d, Room %d", bound, e, s.Len(), s.Room())
				}
			}
			for n := range popped {
				if _, e := s.Pop(); e != api.OK || s.Room() != n+1 {
					t.Fatalf("bound %d, pop %d: %v; Room %d", bound, n, e, s.Room())
				}
			}
			for n := range popped {
				if e := s.Push(api.Ref(6000 + n)); e != api.OK {
					t.Fatalf("bound %d, push %d behind %d pops: %v", bound, n, popped, e)
				}
			}
		}
	}
}

// What was pushed last is popped first, whatever the order of the references, till there is none.
func TestPopsTurnThePushesRound(t *testing.T) {
	for _, pushed := range [][]api.Ref{{}, {7}, {0}, {1, 2, 3, 4}, {4, 3, 2, 1}, {2, 4, 1, 3}, {7, 7, 7, 7}, {7, 0, 7, 0}, {0, 0, 0}, {math.MaxUint64, 0, math.MaxUint64, 1}, refs()[:maxRoots]} {
		s, _ := roots.New(maxRoots)
		for _, r := range pushed {
			if e := s.Push(r); e != api.OK {
				t.Fatal(e)
			}
		}
		for i := len(pushed) - 1; i >= 0; i-- {
			if r, e := s.Pop(); r != pushed[i] || e != api.OK || s.Len() != i || !slices.Equal(s.List(), pushed[:i]) {
				t.Errorf("%v: Pop: %d, %v; Len %d, List %v", pushed, r, e, s.Len(), s.List())
			}
		}
		for range 3 {
			if r, e := s.Pop(); r != 0 || e != api.ErrEmpty || s.Len() != 0 || s.Room() != maxRoots {
				t.Errorf("%v: Pop of none: %d, %v; Len %d, Room %d", pushed, r, e, s.Len(), s.Room())
			}
		}
	}
}

// A handle that was popped is none any more; once there is one at its place again, it has the new reference alone.
func TestAPoppedHandleIsGone(t *testing.T) {
	for _, bound := range []int{1, 2, 3, 64} {
		for popped := 1; popped <= bound; popped++ {
			s, _ := roots.New(bound)
			for n := range bound {
				s.Push(api.Ref(100 + n))
			}
			for range popped {
				s.Pop()
			}
			left := bound - popped
			for i := left; i < bound; i++ {
				if r, e := s.At(i); r != 0 || e != api.ErrHandle {
					t.Errorf("bound %d, %d popped: At(%d): %d, %v", bound, popped, i, r, e)
				}
				if e := s.Set(i, 7); e != api.ErrHandle {
					t.Errorf("bound %d, %d popped: Set(%d): %v", bound, popped, i, e)
				}
			}
			for i := left; i < bound; i++ {
				if e := s.Push(0); e != api.OK {
					t.Errorf("bound %d, %d popped: Push: %v", bound, popped, e)
				}
				if r, e := s.At(i); r != 0 || e != api.OK {
					t.Errorf("bound %d, %d popped: At(%d): %d, %v", bound, popped, i, r, e)
				}
			}
		}
	}
}

// References keep all of their bits, wherever they go.
func TestReferencesOfEachKind(t *testing.T) {
	for _, r := range refs() {
		for _, other := range []api.Ref{0, 1, 1 << 32, math.MaxUint64} {
			x := newBoth(t, 3)
			x.push(t, r)
			x.push(t, other)
			x.push(t, r)
			x.wantKnown(t)
			x.set(t, 0, other)
			x.set(t, 1, r)
			x.wantKnown(t)
			x.set(t, 0, r)
			x.set(t, 0, r)
			x.wantKnown(t)
			x.finish(t)
		}
	}
}

// Stacks with all kinds of references among them.
func TestReferencesSideBySide(t *testing.T) {
	all := refs()
	for from := range all {
		x := newBoth(t, maxRoots)
		for n := range maxRoots + 1 {
			x.push(t, all[(from+n)%len(all)])
		}
		x.wantKnown(t)
		for i := range maxRoots {
			x.set(t, i, all[(from*7+i*3)%len(all)])
		}
		x.wantKnown(t)
		x.finish(t)
	}
}

// Set changes the one handle that it names, of each stack, as often as it is set.
func TestSetChangesOneHandle(t *testing.T) {
	for _, bound := range []int{1, 2, 3, 4, 63, 64} {
		for _, count := range []int{1, bound / 2, bound - 1, bound} {
			for i := range count {
				s, _ := roots.New(bound)
				var want []api.Ref
				for n := range count {
					s.Push(api.Ref(100 + n))
					want = append(want, api.Ref(100+n))
				}
				for _, r := range []api.Ref{0, 9, math.MaxUint64, 9, 9, 0, 100} {
					want[i] = r
					if e := s.Set(i, r); e != api.OK || !slices.Equal(s.List(), want) || s.Len() != count || s.Room() != bound-count {
						t.Fatalf("Set(%d, %d) of %d: %v; List %v, Len %d, Room %d", i, r, count, e, s.List(), s.Len(), s.Room())
					}
				}
			}
		}
	}
}

// Len, Room and List of an empty, a half full and a full stack, with the answers written out.
func TestEmptyHalfFullAndFull(t *testing.T) {
	for _, r := range []struct {
		bound  int
		pushed []api.Ref
		room   int
	}{
		{1, nil, 1},
		{1, []api.Ref{0}, 0},
		{4, nil, 4},
		{4, []api.Ref{0, 0}, 2},
		{4, []api.Ref{3, 1}, 2},
		{4, []api.Ref{3, 1, 0, 2}, 0},
		{64, nil, 64},
		{64, make([]api.Ref, 32), 32},
		{64, make([]api.Ref, 63), 1},
		{64, make([]api.Ref, 64), 0},
	} {
		s, _ := roots.New(r.bound)
		for _, ref := range r.pushed {
			s.Push(ref)
		}
		for range 3 {
			if s.Len() != len(r.pushed) || s.Room() != r.room || !slices.Equal(s.List(), r.pushed) {
				t.Errorf("%v of %d: Len %d, Room %d, List %v", r.pushed, r.bound, s.Len(), s.Room(), s.List())
			}
		}
	}
}

// calls is how many calls act knows.
const calls = 9

// act makes one of several calls; n tells it from the others of its row.
func (x *both) act(t *testing.T, call int, n api.Ref) {
	t.Helper()
	switch call {
	case 0:
		x.push(t, 100+n)
	case 1:
		x.push(t, 0)
	case 2:
		x.pop(t)
	case 3:
		x.set(t, 0, 200+n)
	case 4:
		x.set(t, x.m.count-1, math.MaxUint64-n)
	case 5:
		x.set(t, x.m.count, 300+n)
	case 6:
		x.set(t, 1, 0)
	case 7:
		x.at(t, x.m.count)
		x.at(t, x.m.count-1)
	case 8:
		x.at(t, -1)
		x.at(t, 0)
	}
}

// Each row of up to five calls, of stacks of the least bounds, is made call by call.
func TestEachRowOfCalls(t *testing.T) {
	for bound := 1; bound <= 4; bound++ {
		rows := 1
		for length := 1; length <= 5; length++ {
			rows *= calls
			for row := range rows {
				x := newBoth(t, bound)
				for n, left := 0, row; n < length; n, left = n+1, left/calls {
					x.act(t, left%calls, api.Ref(n))
				}
				// What stands ahead of a row's last call is a row of its own, which was looked at.
				x.wantKnown(t)
			}
		}
	}
}

// Each row of up to twelve pushes and pops, of each bound that it may reach and one more.
func TestEachRowOfPushesAndPops(t *testing.T) {
	for bound := 1; bound <= 7; bound++ {
		for row := range 1 << 12 {
			x := newBoth(t, bound)
			for n := range 12 {
				if row>>n&1 == 1 {
					x.push(t, api.Ref(n))
				} else {
					x.pop(t)
				}
			}
			x.wantKnown(t)
		}
	}
}

// numbers gives numbers from all over by a rule that is always the same.
type numbers uint64

func (n *numbers) below(bound int) int {
	*n = *n*6364136223846793005 + 1442695040888963407
	return int(uint64(*n) >> 33 % uint64(bound))
}

// Many calls by a rule, of a stack of each bound: some rows tend to fill it, some to empty it.
func TestManyCalls(t *testing.T) {
	all := refs()
	for bound := 1; bound <= maxRoots; bound++ {
		n := numbers(bound)
		x := newBoth(t, bound)
		for round := range 1500 {
			i, r := n.below(bound+4)-2, all[n.below(len(all))]
			switch call := n.below(10); {
			case call == 0:
				x.refuse(t)
			case call == 1:
				x.set(t, far[n.below(len(far))], r)
			case call <= 3:
				x.set(t, i, r)
			case call == 4:
				x.at(t, i)
			case (call <= 7) == (round/200%2 == 0):
				x.push(t, r)
			default:
				x.pop(t)
			}
			if round%7 == 0 {
				x.wantKnown(t)
			}
		}
		x.wantKnown(t)
		x.finish(t)
	}
}

// Lists that are given are the caller's: what is done to them, and to their spare room, isn't done to the stack, and no later call changes them.
func TestListsAreNewMemory(t *testing.T) {
	for _, bound := range []int{1, 2, 3, 4, 5, 7, 8, 9, 63, 64} {
		x := newBoth(t, bound)
		var given, kept [][]api.Ref
		n := numbers(bound)
		for round := range 60 * bound {
			switch call := n.below(6); call {
			case 0, 1, 2:
				x.push(t, api.Ref(round))
			case 3:
				x.pop(t)
			default:
				x.set(t, n.below(bound), api.Ref(10000+round))
			}
			spoiled := x.s.List()
			spoiled = spoiled[:cap(spoiled)]
			for i := range spoiled {
				spoiled[i] = 88
			}
			x.wantKnown(t)
			if round%9 == 0 {
				list := x.s.List()
				_ = append(list, 89, 90)
				given, kept = append(given, list), append(kept, slices.Clone(list))
			}
		}
		x.finish(t)
		for i := range given {
			if !slices.Equal(given[i], kept[i]) {
				t.Fatalf("bound %d: %v was given, and is %v now", bound, kept[i], given[i])
			}
		}
	}
}

// Two lists of the same handles, and the stack, each go their own way.
func TestTwoListsOfOneStack(t *testing.T) {
	s, _ := roots.New(3)
	s.Push(1)
	s.Push(2)
	one, other := s.List(), s.List()
	one[0] = 50
	_ = append(one, 51)
	s.Push(3)
	s.Set(1, 60)
	if !slices.Equal(one, []api.Ref{50, 2}) || !slices.Equal(other, []api.Ref{1, 2}) || !slices.Equal(s.List(), []api.Ref{1, 60, 3}) {
		t.Errorf("%v, %v, %v", one, other, s.List())
	}
}

// Two stacks have nothing to do with one another, whatever their bounds, nor have more.
func TestTwoStacks(t *testing.T) {
	for _, bounds := range [][2]int{{1, 1}, {1, 2}, {2, 2}, {3, 8}, {8, 8}, {64, 1}, {64, 64}, {63, 64}} {
		one, other := newBoth(t, bounds[0]), newBoth(t, bounds[1])
		n := numbers(bounds[0] + bounds[1])
		for round := range 600 {
			x, y := one, other
			if n.below(2) == 0 {
				x, y = other, one
			}
			switch n.below(5) {
			case 0, 1:
				x.push(t, api.Ref(round))
			case 2:
				x.pop(t)
			case 3:
				x.set(t, n.below(x.m.bound), api.Ref(10000+round))
			default:
				x.refuse(t)
			}
			y.wantKnown(t)
			x.wantKnown(t)
		}
		one.finish(t)
		other.wantKnown(t)
		other.finish(t)
		one.wantKnown(t)
	}
}

// As many stacks as there may be threads, each with references of its own.
func TestManyStacks(t *testing.T) {
	all := make([]*both, api.MaxThreads)
	for i := range all {
		all[i] = newBoth(t, i%maxRoots+1)
	}
	for round := range maxRoots + 1 {
		for i, x := range all {
			x.push(t, api.Ref(1000*i+round))
			if round%5 == 4 {
				x.pop(t)
			}
			x.set(t, round/2, api.Ref(1000*i+500+round))
		}
		for _, x := range all {
			x.wantKnown(t)
		}
	}
}

// Pointers to one stack lead to the same handles: it is no copy.
func TestOnePointerIsAnother(t *testing.T) {
	s, _ := roots.New(2)
	same := s
	s.Push(5)
	same.Set(0, 6)
	if r, e := s.At(0); r != 6 || e != api.OK || same.Len() != 1 {
		t.Errorf("At: %d, %v; Len %d", r, e, same.Len())
	}
	same.Push(7)
	if e := s.Push(8); e != api.ErrStack {
		t.Error(e)
	}
}

// The chapter's examples, in their order.
func TestExamples(t *testing.T) {
	s, e := roots.New(2)
	if e != api.OK {
		t.Fatal(e)
	}
	for _, r := range []struct {
		ref api.Ref
		e   api.Errno
	}{{5, api.OK}, {0, api.OK}, {7, api.ErrStack}} {
		if e := s.Push(r.ref); e != r.e {
			t.Errorf("Push(%d): %v", r.ref, e)
		}
	}
	if r, e := s.At(1); r != 0 || e != api.OK {
		t.Errorf("At(1): %d, %v", r, e)
	}
	if r, e := s.At(2); r != 0 || e != api.ErrHandle {
		t.Errorf("At(2): %d, %v", r, e)
	}
	if e := s.Set(0, 9); e != api.OK {
		t.Errorf("Set(0, 9): %v", e)
	}
	for _, r := range []struct {
		ref api.Ref
		e   api.Errno
	}{{0, api.OK}, {9, api.OK}, {0, api.ErrEmpty}} {
		if ref, e := s.Pop(); ref != r.ref || e != r.e {
			t.Errorf("Pop: %d, %v, not %d, %v", ref, e, r.ref, r.e)
		}
	}
}
