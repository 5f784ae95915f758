package queue_test

import (
	"maps"
	"math"
	"slices"
	"testing"

	"gleaner/api"
	"gleaner/queue"
)

// The bounds of threads, of the common list and of a thread's list, written out, so that the tests don't lean on what the package leans on.
const (
	maxThreads = 64
	maxBound   = 65536
	local      = 4
)

// far are numbers at both ends of what an int can be, where sums, products and narrowings wrap round.
var far = []int{
	math.MinInt, math.MinInt + 1, math.MinInt + 4, math.MinInt + 64, math.MinInt + maxBound, -1 << 62, -1<<32 - 1, -1 << 32, 1 - 1<<32, 64 - 1<<32, -1<<31 - 1, -1 << 31,
	-maxBound - 1, -maxBound, -257, -256, -255, -65, -64, -63, -5, -4, -3, -2, -1,
	maxBound + 1, maxBound + 2, 2 * maxBound, 1<<31 - 1, 1 << 31, 1<<32 - 1, 1 << 32, 1<<32 + 1, 1<<32 + 3, 1<<32 + 64, 1 << 60, 1 << 61, 1 << 62, 1<<62 + 1,
	math.MaxInt - maxBound, math.MaxInt - 64, math.MaxInt - 4, math.MaxInt - 1, math.MaxInt,
}

// noThreads are numbers that no thread of so many has.
func noThreads(threads int) []int {
	all := append([]int{-threads, ^threads, threads, threads + 1, threads + 256, threads + 1<<16}, far...)
	return slices.DeleteFunc(all, func(n int) bool { return n >= 0 && n < threads })
}

// noCards are the far numbers below 0.
func noCards() []int {
	return slices.DeleteFunc(slices.Clone(far), func(n int) bool { return n >= 0 })
}

// model is the plainest queue: lists in which each card goes its way alone.
type model struct {
	bound  int
	common []int
	own    [][]int
}

func (m *model) push(thread, card int) ([]int, api.Errno) {
	if thread < 0 || thread > len(m.own)-1 || card <= -1 {
		return nil, api.ErrRange
	}
	m.own[thread] = append(m.own[thread], card)
	if len(m.own[thread]) != local {
		return nil, api.OK
	}
	var over []int
	for _, card := range m.own[thread] {
		if len(m.common) < m.bound {
			m.common = append(m.common, card)
		} else {
			over = append(over, card)
		}
	}
	m.own[thread] = nil
	return over, api.OK
}

func (m *model) pop() (int, api.Errno) {
	if len(m.common) == 0 {
		return 0, api.ErrNone
	}
	first := m.common[0]
	m.common = slices.Delete(m.common, 0, 1)
	return first, api.OK
}

// all are the cards in the order in which they would be drained.
func (m *model) all() []int {
	all := slices.Clone(m.common)
	for _, own := range m.own {
		all = append(all, own...)
	}
	return all
}

func (m *model) drain() []int {
	all := m.all()
	m.common, m.own = nil, make([][]int, len(m.own))
	return all
}

// both are a queue and its model; came and went count each card that was pushed, and that was popped, drained or left over.
type both struct {
	q          *queue.Queue
	m          model
	came, went map[int]int
}

func newBoth(t *testing.T, threads, bound int) *both {
	t.Helper()
	q, e := queue.New(threads, bound)
	if q == nil || e != api.OK {
		t.Fatalf("New(%d, %d): %v, %v", threads, bound, q, e)
	}
	return &both{q, model{bound: bound, own: make([][]int, threads)}, map[int]int{}, map[int]int{}}
}

// wantKnown holds all that a queue tells of itself against the model, twice, since telling may change nothing.
func (x *both) wantKnown(t *testing.T) {
	t.Helper()
	for range 2 {
		if n := x.q.Len(); n != len(x.m.common) || n > x.m.bound {
			t.Fatalf("%+v: Len %d", x.m, n)
		}
		if n := x.q.Waiting(); n != len(x.m.all()) {
			t.Fatalf("%+v: Waiting %d", x.m, n)
		}
	}
}

// wantNoneLost asks that each card that came has gone as often, or waits.
func (x *both) wantNoneLost(t *testing.T) {
	t.Helper()
	found := maps.Clone(x.went)
	for _, card := range x.m.all() {
		found[card]++
	}
	if !maps.Equal(found, x.came) {
		t.Fatalf("%+v: came %v, found %v", x.m, x.came, found)
	}
}

func (x *both) leave(cards ...int) {
	for _, card := range cards {
		x.went[card]++
	}
}

func (x *both) push(t *testing.T, thread, card int) []int {
	t.Helper()
	want, wantE := x.m.push(thread, card)
	over, e := x.q.Push(thread, card)
	if !slices.Equal(over, want) || e != wantE {
		t.Fatalf("%+v: Push(%d, %d): %v, %v, not %v, %v", x.m, thread, card, over, e, want, wantE)
	}
	if e == api.OK {
		x.came[card]++
	}
	x.leave(over...)
	x.wantKnown(t)
	return over
}

func (x *both) pop(t *testing.T) {
	t.Helper()
	want, wantE := x.m.pop()
	card, e := x.q.Pop()
	if card != want || e != wantE {
		t.Fatalf("%+v: Pop: %d, %v, not %d, %v", x.m, card, e, want, wantE)
	}
	if e == api.OK {
		x.leave(card)
	}
	x.wantKnown(t)
}

func (x *both) drain(t *testing.T) []int {
	t.Helper()
	want := x.m.drain()
	cards := x.q.Drain()
	if !slices.Equal(cards, want) {
		t.Fatalf("%+v: Drain: %v, not %v", x.m, cards, want)
	}
	x.leave(cards...)
	x.wantKnown(t)
	return cards
}

// refuse makes calls that may not be done, so that what they change is seen.
func (x *both) refuse(t *testing.T) {
	t.Helper()
	for _, thread := range noThreads(len(x.m.own)) {
		x.push(t, thread, 7)
		x.push(t, thread, -7)
	}
	for _, card := range noCards() {
		x.push(t, 0, card)
		x.push(t, len(x.m.own)-1, card)
	}
	if len(x.m.common) == 0 {
		x.pop(t)
	}
}

// finish pops till nothing is left to pop, drains the others, and asks that none was lost.
func (x *both) finish(t *testing.T) {
	t.Helper()
	x.wantNoneLost(t)
	for len(x.m.common) > 0 {
		x.pop(t)
	}
	x.pop(t)
	x.drain(t)
	x.drain(t)
	x.pop(t)
	x.wantNoneLost(t)
	if !maps.Equal(x.came, x.went) {
		t.Fatalf("came %v, went %v", x.came, x.went)
	}
}

// fill has the thread 0 push cards, counted from a number on, till the common list has so many; the model is asked, so that what it takes is seen.
func (x *both) fill(t *testing.T, common, from int) {
	t.Helper()
	for len(x.m.common) < common {
		x.push(t, 0, from)
		from++
	}
}

// P10.1

// Each two of the numbers about the bounds, and of the far ones.
func TestNewOfEachTwo(t *testing.T) {
	numbers := append([]int{0, 1, 2, 3, 4, 5, 6, 7, 8, 9, 31, 32, 33, 62, 63, 64, 65, 66, 127, 128, 129, 255, 256, 257, 320, maxBound - 4, maxBound - 1, maxBound}, far...)
	for _, threads := range numbers {
		for _, bound := range numbers {
			if threads > 0 && threads <= maxThreads && bound >= 0 && bound <= maxBound {
				x := newBoth(t, threads, bound)
				x.wantKnown(t)
				x.push(t, threads-1, 1)
				x.push(t, threads, 1)
				x.finish(t)
				continue
			}
			if q, e := queue.New(threads, bound); q != nil || e != api.ErrRange {
				t.Fatalf("New(%d, %d): %v, %v", threads, bound, q, e)
			}
		}
	}
}

// The edges that the promise names, each with its answer written out.
func TestNewAtTheEdges(t *testing.T) {
	for _, r := range []struct {
		threads, bound int
		e              api.Errno
	}{
		{-1, 3, api.ErrRange},
		{0, 3, api.ErrRange},
		{1, 3, api.OK},
		{2, 3, api.OK},
		{63, 3, api.OK},
		{64, 3, api.OK},
		{65, 3, api.ErrRange},
		{2, -1, api.ErrRange},
		{2, 0, api.OK},
		{2, 1, api.OK},
		{2, 65535, api.OK},
		{2, 65536, api.OK},
		{2, 65537, api.ErrRange},
		{1, 0, api.OK},
		{64, 65536, api.OK},
		{0, -1, api.ErrRange},
		{0, 65537, api.ErrRange},
		{65, -1, api.ErrRange},
		{65, 65537, api.ErrRange},
		// Of these the lowest bits alone are right.
		{257, 3, api.ErrRange},
		{1<<32 + 2, 3, api.ErrRange},
		{2 - 1<<32, 3, api.ErrRange},
		{2, 1<<32 + 3, api.ErrRange},
		{2, 3 - 1<<32, api.ErrRange},
		{math.MaxInt, math.MaxInt, api.ErrRange},
		{math.MinInt, math.MinInt, api.ErrRange},
		{math.MaxInt, 3, api.ErrRange},
		{2, math.MaxInt, api.ErrRange},
		{math.MinInt, 3, api.ErrRange},
		{2, math.MinInt, api.ErrRange},
	} {
		q, e := queue.New(r.threads, r.bound)
		if e != r.e || (q != nil) != (r.e == api.OK) {
			t.Errorf("New(%d, %d): %v, %v", r.threads, r.bound, q, e)
		}
		if q.Len() != 0 || q.Waiting() != 0 || len(q.Drain()) != 0 {
			t.Errorf("New(%d, %d): it isn't empty", r.threads, r.bound)
		}
	}
}

// Each number of threads that may be: just these may push, and each has a list of its own.
func TestEachNumberOfThreads(t *testing.T) {
	for threads := 1; threads <= maxThreads; threads++ {
		x := newBoth(t, threads, 9)
		for thread := -3; thread < maxThreads+3; thread++ {
			x.push(t, thread, 100+thread)
		}
		if n := x.q.Waiting(); n != threads || x.q.Len() != 0 {
			t.Errorf("%d threads: Waiting %d, Len %d", threads, n, x.q.Len())
		}
		x.refuse(t)
		x.finish(t)
	}
}

// Each call of a nil queue: it is told ahead of any other fault.
func TestNilQueue(t *testing.T) {
	var none *queue.Queue
	refused, _ := queue.New(0, 0)
	for _, q := range []*queue.Queue{none, refused} {
		for _, thread := range append([]int{0, 1, 63, 64}, far...) {
			for _, card := range append([]int{0, 1, 5}, far...) {
				if over, e := q.Push(thread, card); len(over) != 0 || e != api.ErrNil {
					t.Fatalf("Push(%d, %d): %v, %v", thread, card, over, e)
				}
			}
		}
		for range 2 {
			if card, e := q.Pop(); card != 0 || e != api.ErrNil {
				t.Errorf("Pop: %d, %v", card, e)
			}
			if cards := q.Drain(); len(cards) != 0 {
				t.Errorf("Drain: %v", cards)
			}
			if q.Len() != 0 || q.Waiting() != 0 {
				t.Errorf("Len %d, Waiting %d", q.Len(), q.Waiting())
			}
		}
	}
}

// P10.2

func TestLocalIsFour(t *testing.T) {
	// An array's length is asked, so that Local has to be a constant.
	var list [queue.Local]int
	if len(list) != 4 {
		t.Errorf("Local: %d", len(list))
	}
}

// The pushes just ahead of the fourth one, that one, and those just behind it, of each bound up to 13; the answers are written out.
func TestTheFourthPush(t *testing.T) {
	for bound := range 14 {
		q, _ := queue.New(1, bound)
		for n := range 16 {
			var want []int
			if n%4 == 3 {
				for card := n - 3; card <= n; card++ {
					if card >= bound {
						want = append(want, card)
					}
				}
			}
			over, e := q.Push(0, n)
			if !slices.Equal(over, want) || e != api.OK {
				t.Errorf("bound %d, push %d: %v, %v", bound, n, over, e)
			}
			common := min(bound, (n+1)/4*4)
			if q.Len() != common || q.Waiting() != common+(n+1)%4 {
				t.Errorf("bound %d, push %d: Len %d, Waiting %d", bound, n, q.Len(), q.Waiting())
			}
		}
	}
}

// A common list with room for none, for one, two, three and four, and for more: so it is left by a fill, and so by pops.
func TestRoomOfEachNumber(t *testing.T) {
	for bound := range 14 {
		for popped := range bound + 1 {
			for behind := range 14 {
				x := newBoth(t, 3, bound)
				x.fill(t, bound, 10)
				for range popped {
					x.pop(t)
				}
				for n := range behind {
					over := x.push(t, 1, 1000+n)
					if n == 3 && len(over) != max(0, 4-popped) {
						t.Fatalf("bound %d, popped %d: %v is left over", bound, popped, over)
					}
				}
				x.push(t, 2, 5)
				x.finish(t)
			}
		}
	}
}

// The first cards go where there is room, the last ones are left over, each in its order, whatever the cards are.
func TestOrderOfWhatIsLeftOver(t *testing.T) {
	for _, cards := range [][]int{{1, 2, 3, 4}, {4, 3, 2, 1}, {2, 4, 1, 3}, {7, 7, 7, 7}, {7, 8, 7, 8}, {0, 0, 1, 1}, {0, math.MaxInt, 0, math.MaxInt}, {math.MaxInt, math.MaxInt - 1, 1 << 32, 1<<32 - 1}} {
		for room := range 6 {
			q, _ := queue.New(2, room)
			for n, card := range cards {
				over, e := q.Push(1, card)
				var want []int
				if n == 3 {
					want = cards[min(4, room):]
				}
				if !slices.Equal(over, want) || e != api.OK {
					t.Errorf("%v, room %d: %v, %v", cards, room, over, e)
				}
			}
			for _, want := range cards[:min(4, room)] {
				if card, e := q.Pop(); card != want || e != api.OK {
					t.Errorf("%v, room %d: Pop %d, %v", cards, room, card, e)
				}
			}
			if card, e := q.Pop(); card != 0 || e != api.ErrNone {
				t.Errorf("%v, room %d: Pop %d, %v", cards, room, card, e)
			}
		}
	}
}

// Threads and cards that may not be, and both; in each state of the lists nothing is changed.
func TestPushOfWhatMayNotBe(t *testing.T) {
	for _, threads := range []int{1, 2, 3, 63, 64} {
		for own := range 4 {
			for _, bound := range []int{0, 1, 3, 4, 5, 8} {
				x := newBoth(t, threads, bound)
				x.refuse(t)
				x.fill(t, bound, 10)
				for n := range own {
					x.push(t, threads-1, 100+n)
				}
				x.refuse(t)
				x.pop(t)
				x.refuse(t)
				// The thread's list has as many cards as ahead of the refusals: only its own pushes count.
				for n := range 5 {
					x.push(t, threads-1, 200+n)
				}
				x.finish(t)
				x.refuse(t)
			}
		}
	}
}

// The edges of threads and cards, each with its answer written out.
func TestPushAtTheEdges(t *testing.T) {
	for _, r := range []struct {
		threads, thread, card int
		e                     api.Errno
	}{
		{3, -1, 0, api.ErrRange},
		{3, 0, 0, api.OK},
		{3, 2, 0, api.OK},
		{3, 3, 0, api.ErrRange},
		{1, 0, 0, api.OK},
		{1, 1, 0, api.ErrRange},
		{64, 63, 0, api.OK},
		{64, 64, 0, api.ErrRange},
		{3, 0, -1, api.ErrRange},
		{3, 2, -1, api.ErrRange},
		{3, 0, 1, api.OK},
		{3, 0, 65536, api.OK},
		{3, 0, 4194304, api.OK},
		{3, 0, 1 << 32, api.OK},
		{3, 0, math.MaxInt, api.OK},
		{3, 0, math.MinInt, api.ErrRange},
		{3, -1, -1, api.ErrRange},
		{3, 3, -1, api.ErrRange},
		{3, 1 << 32, 0, api.ErrRange},
		{3, -1 << 32, 0, api.ErrRange},
		{3, 256, 0, api.ErrRange},
		{3, 0, -1 << 32, api.ErrRange},
		{3, 0, 1 - 1<<32, api.ErrRange},
		{3, math.MaxInt, 0, api.ErrRange},
		{3, math.MinInt, 0, api.ErrRange},
		{3, math.MinInt, math.MinInt, api.ErrRange},
		{3, math.MaxInt, math.MaxInt, api.ErrRange},
	} {
		q, _ := queue.New(r.threads, 9)
		var want []int
		if r.e == api.OK {
			want = []int{r.card}
		}
		over, e := q.Push(r.thread, r.card)
		waiting := q.Waiting()
		if cards := q.Drain(); len(over) != 0 || e != r.e || waiting != len(want) || !slices.Equal(cards, want) {
			t.Errorf("Push(%d, %d) of %d threads: %v, %v; Waiting %d; Drain %v", r.thread, r.card, r.threads, over, e, waiting, cards)
		}
	}
}

// The greatest cards there are keep all of their bits, wherever they go.
func TestGreatestCards(t *testing.T) {
	cards := slices.DeleteFunc(slices.Clone(far), func(n int) bool { return n < 0 })
	for bound := range 3 * local {
		x := newBoth(t, 2, bound)
		for n, card := range append(cards, cards...) {
			x.push(t, 0, card)
			if n%3 == 0 {
				x.push(t, 1, card)
			}
		}
		x.finish(t)
	}
}

// Pop takes nothing of threads' lists, be the common list as it was made, popped or drained.
func TestPopOfAnEmptyCommonList(t *testing.T) {
	x := newBoth(t, 2, 5)
	x.pop(t)
	for n := range 3 {
		x.push(t, 0, n)
		x.push(t, 1, 10+n)
		x.pop(t)
		x.pop(t)
	}
	x.push(t, 0, 3)
	for range 6 {
		x.pop(t)
	}
	if n := x.q.Waiting(); n != 3 {
		t.Errorf("Waiting %d", n)
	}
	x.drain(t)
	x.pop(t)
	x.push(t, 1, 20)
	x.pop(t)
	x.finish(t)
}

// A list that was popped till nothing was left is filled again, and has its whole bound.
func TestPushesBehindPops(t *testing.T) {
	for bound := range 14 {
		x := newBoth(t, 2, bound)
		for round := range 5 {
			x.fill(t, bound, 100*round)
			for range bound {
				x.pop(t)
			}
			x.pop(t)
			for n := range local {
				if over := x.push(t, 1, n); n == local-1 && len(over) != max(0, local-bound) {
					t.Fatalf("bound %d, round %d: %v is left over", bound, round, over)
				}
			}
			for range local {
				x.pop(t)
			}
		}
		x.finish(t)
	}
}

// For long there are as many pops as pushes, with each number of cards between them: nothing of the cards that went is in the way.
func TestLongRun(t *testing.T) {
	for _, bound := range []int{1, 2, 3, 4, 5, 7, 8, 9, 16, 17, 64, 67} {
		for _, kept := range []int{0, 1, bound / 2, bound - 4, bound - 1, bound} {
			x := newBoth(t, 1, bound)
			x.fill(t, min(max(0, kept), bound), 1)
			for n := range 600 {
				x.push(t, 0, n)
				if len(x.m.common) > kept {
					x.pop(t)
				}
			}
			x.finish(t)
		}
	}
}

// The greatest bounds, of which four doesn't divide each: one card behind the other till there is room for none, and all popped in order.
func TestTheGreatestBounds(t *testing.T) {
	for _, bound := range []int{maxBound - 5, maxBound - 4, maxBound - 3, maxBound - 2, maxBound - 1, maxBound} {
		q, _ := queue.New(2, bound)
		var over []int
		for card := range maxBound + 8 {
			more, e := q.Push(1, card)
			if e != api.OK {
				t.Fatal(e)
			}
			over = append(over, more...)
			if n := q.Len(); n > bound || n != min(bound, (card+1)/4*4) || n+len(over)+(card+1)%4 != card+1 {
				t.Fatalf("bound %d, card %d: Len %d, %d left over", bound, card, n, len(over))
			}
		}
		if len(over) != maxBound+8-bound || !slices.IsSorted(over) || over[0] != bound || over[len(over)-1] != maxBound+7 {
			t.Errorf("bound %d: %v is left over", bound, over)
		}
		if n := q.Waiting(); n != bound {
			t.Errorf("bound %d: Waiting %d", bound, n)
		}
		for want := range bound {
			if card, e := q.Pop(); card != want || e != api.OK {
				t.Fatalf("bound %d: Pop: %d, %v, not %d", bound, card, e, want)
			}
		}
		if card, e := q.Pop(); card != 0 || e != api.ErrNone || q.Waiting() != 0 {
			t.Errorf("bound %d: Pop: %d, %v; Waiting %d", bound, card, e, q.Waiting())
		}
	}
}

// The most cards there can be are drained at once.
func TestDrainOfTheMostCards(t *testing.T) {
	q, _ := queue.New(maxThreads, maxBound)
	var want []int
	for card := range maxBound {
		q.Push(card/4%maxThreads, card)
		want = append(want, card)
	}
	for thread := range maxThreads {
		for n := range 3 {
			q.Push(thread, 10*thread+n)
			want = append(want, 10*thread+n)
		}
	}
	if q.Len() != maxBound || q.Waiting() != maxBound+3*maxThreads {
		t.Errorf("Len %d, Waiting %d", q.Len(), q.Waiting())
	}
	if cards := q.Drain(); !slices.Equal(cards, want) || q.Len() != 0 || q.Waiting() != 0 {
		t.Errorf("Drain: %d cards; Len %d, Waiting %d", len(cards), q.Len(), q.Waiting())
	}
}

// P10.3

// Of each two threads' lists and each number of common cards: an empty queue, one list alone, and several.
func TestDrainOfEachState(t *testing.T) {
	for bound := range 10 {
		for common := 0; common <= bound; common++ {
			for first := range local {
				for last := range local {
					x := newBoth(t, 4, bound)
					x.fill(t, bound, 10)
					for len(x.m.common) > common {
						x.pop(t)
					}
					for n := range last {
						x.push(t, 3, 300+n)
					}
					for n := range first {
						x.push(t, 1, 100+n)
					}
					x.wantNoneLost(t)
					if cards := x.drain(t); len(cards) != common+first+last {
						t.Fatalf("Drain: %v", cards)
					}
					// Each thread has its whole list again, and the common list its whole bound.
					for n := range bound + local {
						x.push(t, 0, 500+n)
						x.push(t, 1, 600+n)
						x.push(t, 3, 700+n)
					}
					x.finish(t)
				}
			}
		}
	}
}

// Threads are drained in the order of their numbers, not in that in which they pushed; no thread's cards are another one's.
func TestDrainInTheOrderOfThreads(t *testing.T) {
	x := newBoth(t, maxThreads, 6)
	var want []int
	for thread := range maxThreads {
		for n := range thread % local {
			want = append(want, 10*thread+n)
		}
	}
	for n := range local {
		for thread := maxThreads - 1; thread >= 0; thread-- {
			if n < thread%local {
				x.push(t, thread, 10*thread+n)
			}
		}
	}
	if n := x.q.Waiting(); n != len(want) || x.q.Len() != 0 {
		t.Errorf("Waiting %d, Len %d", n, x.q.Len())
	}
	if cards := x.drain(t); !slices.Equal(cards, want) {
		t.Errorf("Drain: %v", cards)
	}
	x.finish(t)
}

// The lists go behind the common one in the order in which they become full.
func TestListsBecomeFullInEachOrder(t *testing.T) {
	for _, order := range [][]int{{0, 1, 2}, {0, 2, 1}, {1, 0, 2}, {1, 2, 0}, {2, 0, 1}, {2, 1, 0}, {1, 1, 1}, {2, 0, 2}} {
		for bound := range 14 {
			x := newBoth(t, 3, bound)
			for n := range local - 1 {
				for thread := range 3 {
					x.push(t, thread, 10*thread+n)
				}
			}
			for _, thread := range order {
				for len(x.m.own[thread]) < local-1 {
					x.push(t, thread, 100)
				}
				x.push(t, thread, 10*thread+local-1)
			}
			x.finish(t)
		}
	}
}

// Lists that are given are the caller's: what is done to them isn't done to the queue, nor the other way round; that holds of their spare room, too.
func TestListsAreNewMemory(t *testing.T) {
	spoil := func(list []int) {
		list = list[:cap(list)]
		for i := range list {
			list[i] = -99
		}
	}
	for bound := range 10 {
		x := newBoth(t, 2, bound)
		var given, kept [][]int
		keep := func(list []int) {
			for _, old := range given {
				_ = append(old, -98)
			}
			given, kept = append(given, list), append(kept, slices.Clone(list))
		}
		for n := range 90 {
			over := x.push(t, n%2, n)
			if n%5 == 0 {
				spoil(over)
			} else {
				keep(over)
			}
			if n%7 == 6 {
				x.pop(t)
			}
			if n%31 == 30 {
				keep(x.drain(t))
			}
			if n%23 == 22 {
				spoil(x.drain(t))
			}
		}
		x.finish(t)
		for i := range given {
			if !slices.Equal(given[i], kept[i]) {
				t.Fatalf("bound %d: %v was given, and is %v now", bound, kept[i], given[i])
			}
		}
	}
}

// A list that is left over shares nothing with the next ones, nor with what the queue keeps behind it.
func TestSpareRoomOfWhatIsLeftOver(t *testing.T) {
	for bound := range 6 {
		x := newBoth(t, 1, bound)
		for n := range local {
			over := x.push(t, 0, n)
			_ = append(over, 90, 91, 92, 93)
		}
		for n := range 3 {
			x.push(t, 0, 10+n)
		}
		over := x.push(t, 0, 13)
		was := slices.Clone(over)
		for n := range 3 {
			x.push(t, 0, 20+n)
		}
		_ = append(over, 94, 95, 96, 97)
		x.finish(t)
		if !slices.Equal(over, was) {
			t.Errorf("bound %d: %v was given, and is %v now", bound, was, over)
		}
	}
}

// Two queues have nothing to do with one another.
func TestTwoQueues(t *testing.T) {
	for bound := range 9 {
		one, other := newBoth(t, 2, bound), newBoth(t, 2, 8-bound)
		for n := range 40 {
			one.push(t, n%2, n)
			other.wantKnown(t)
			other.push(t, n/3%2, 100+n)
			one.wantKnown(t)
			switch n % 11 {
			case 3:
				one.pop(t)
			case 6:
				other.pop(t)
			case 9:
				one.drain(t)
				other.wantKnown(t)
				other.wantNoneLost(t)
			}
		}
		one.finish(t)
		other.wantKnown(t)
		other.finish(t)
	}
}

// P10.4

// act makes one of five calls: a push by one of two threads, a pop, a drain, or one that is refused.
func (x *both) act(t *testing.T, call, card int) {
	t.Helper()
	switch call {
	case 0, 1:
		x.push(t, call, card)
	case 2:
		x.pop(t)
	case 3:
		x.drain(t)
	case 4:
		x.push(t, 2, card)
		x.push(t, 0, -1)
	}
}

// Each row of so many calls of the first few is made, of each bound up to one.
func eachRow(t *testing.T, threads, calls, length, bounds int) {
	t.Helper()
	rows := 1
	for range length {
		rows *= calls
	}
	for bound := range bounds {
		for row := range rows {
			x := newBoth(t, threads, bound)
			for n := range length {
				x.act(t, row%calls, n)
				row /= calls
			}
			x.finish(t)
		}
	}
}

func TestEachRowOfTwoThreads(t *testing.T) {
	eachRow(t, 2, 4, 7, 6)
}

func TestEachRowWithRefusals(t *testing.T) {
	eachRow(t, 2, 5, 6, 3)
}

// Of each bound, each row of thirteen calls in which one thread pushes or pops is made.
func TestEachRowOfOneThread(t *testing.T) {
	for bound := range 10 {
		for row := range 1 << 13 {
			x := newBoth(t, 1, bound)
			for n := range 13 {
				if row>>n&1 == 0 {
					x.push(t, 0, n)
				} else {
					x.pop(t)
				}
			}
			x.finish(t)
		}
	}
}

// The same card as often as wanted: it is counted each time.
func TestTheSameCardAgain(t *testing.T) {
	for bound := range 10 {
		for _, card := range []int{0, 5, math.MaxInt} {
			x := newBoth(t, 2, bound)
			for n := range 30 {
				x.push(t, n%3%2, card)
				if n%4 == 3 {
					x.pop(t)
				}
			}
			if x.came[card] != 30 {
				t.Errorf("bound %d: %d came", bound, x.came[card])
			}
			x.finish(t)
		}
	}
}

// numbers gives numbers from all over by a rule that is always the same.
type numbers uint64

func (n *numbers) below(bound int) int {
	*n = *n*6364136223846793005 + 1442695040888963407
	return int(uint64(*n) >> 33 % uint64(bound))
}

// All calls, one behind the other by a rule: what was told ahead is all that an answer hangs on.
func TestManyCalls(t *testing.T) {
	rule := numbers(10)
	for _, threads := range []int{1, 2, 3, 8, 63, 64} {
		for _, bound := range []int{0, 1, 2, 3, 4, 5, 6, 7, 8, 15, 16, 17, 100, 1000, maxBound} {
			x := newBoth(t, threads, bound)
			// Of each queue pops, or drains, are as rare as another rule says, so that lists of all lengths come to be.
			pops, drains := 1+rule.below(12), 20+rule.below(300)
			for range 700 {
				switch {
				case rule.below(drains) == 0:
					x.drain(t)
				case rule.below(pops) == 0:
					x.pop(t)
				case rule.below(9) == 0:
					x.push(t, threads+rule.below(3), rule.below(9))
					x.push(t, rule.below(threads), -1-rule.below(9))
				default:
					x.push(t, rule.below(threads), rule.below(50))
				}
			}
			x.finish(t)
		}
	}
}

// The chapter's examples.
func TestExamples(t *testing.T) {
	q, e := queue.New(2, 3)
	if e != api.OK {
		t.Fatal(e)
	}
	push := func(thread, card int, wantE api.Errno, want ...int) {
		t.Helper()
		if over, e := q.Push(thread, card); !slices.Equal(over, want) || e != wantE {
			t.Errorf("Push(%d, %d): %v, %v", thread, card, over, e)
		}
	}
	push(0, 5, api.OK)
	push(0, 6, api.OK)
	push(0, 7, api.OK)
	push(1, 9, api.OK)
	if q.Len() != 0 || q.Waiting() != 4 {
		t.Errorf("Len %d, Waiting %d", q.Len(), q.Waiting())
	}
	push(0, 8, api.OK, 8)
	if q.Len() != 3 {
		t.Errorf("Len %d", q.Len())
	}
	if card, e := q.Pop(); card != 5 || e != api.OK {
		t.Errorf("Pop: %d, %v", card, e)
	}
	if cards := q.Drain(); !slices.Equal(cards, []int{6, 7, 9}) {
		t.Errorf("Drain: %v", cards)
	}
	push(2, 1, api.ErrRange)
	push(0, -1, api.ErrRange)
	q, _ = queue.New(1, 0)
	push(0, 1, api.OK)
	push(0, 2, api.OK)
	push(0, 3, api.OK)
	push(0, 4, api.OK, 1, 2, 3, 4)
}
