package arena_test

import (
	"math"
	"slices"
	"testing"

	"gleaner/api"
	"gleaner/arena"
)

func newArena(t *testing.T, words int) *arena.Arena {
	t.Helper()
	a, e := arena.New(words)
	if a == nil || e != api.OK {
		t.Fatalf("New(%d): %v, %v", words, a, e)
	}
	return a
}

// numbered is an arena whose words all differ, and what they are.
func numbered(t *testing.T, words int) (*arena.Arena, []uint64) {
	t.Helper()
	a, m := newArena(t, words), make([]uint64, words)
	for at := range m {
		m[at] = 100 + uint64(at)
		wantStored(t, a, at, m[at])
	}
	return a, m
}

func wantStored(t *testing.T, a *arena.Arena, at int, v uint64) {
	t.Helper()
	if e := a.Store(at, v); e != api.OK {
		t.Fatalf("Store(%d, %d): %v", at, v, e)
	}
}

func wantLoaded(t *testing.T, a *arena.Arena, at int, want uint64) {
	t.Helper()
	if v, e := a.Load(at); v != want || e != api.OK {
		t.Fatalf("Load(%d): %d, %v, not %d", at, v, e, want)
	}
}

func wantSwapped(t *testing.T, a *arena.Arena, at int, old, now uint64, want bool) {
	t.Helper()
	if done, e := a.Swap(at, old, now); done != want || e != api.OK {
		t.Fatalf("Swap(%d, %d, %d): %v, %v", at, old, now, done, e)
	}
}

// wantWords loads each word, and holds them against a plain list.
func wantWords(t *testing.T, a *arena.Arena, want []uint64) {
	t.Helper()
	if a.Len() != len(want) {
		t.Fatalf("Len: %d, not %d", a.Len(), len(want))
	}
	for at, v := range want {
		wantLoaded(t, a, at, v)
	}
}

// wantAccesses asks twice, since to ask is no access.
func wantAccesses(t *testing.T, a *arena.Arena, want int) {
	t.Helper()
	for range 2 {
		if got := a.Accesses(); got != want {
			t.Fatalf("Accesses: %d, not %d", got, want)
		}
	}
}

// lengths are small ones, and some around those of a region.
var lengths = []int{0, 1, 2, 3, 10, 63, 64, 65}

// far are numbers of no word, at both ends of what an int can be and where a sum or a number of bytes would wrap round.
var far = []int{
	math.MinInt, math.MinInt + 1, math.MinInt + 10, -1 << 61, -1 << 32, -64, -2, -1,
	api.MaxWords + 1, 1 << 32, 1 << 60, 1 << 61, 1 << 62, math.MaxInt - 10, math.MaxInt - 1, math.MaxInt,
}

// beside are the numbers behind the words of a length, and the far ones.
func beside(words int) []int {
	return append([]int{words, words + 1, words + 64}, far...)
}

// P3.1

func TestNewMakesWordsThatAreNought(t *testing.T) {
	for _, n := range append([]int{api.MaxWords - 1, api.MaxWords}, lengths...) {
		a := newArena(t, n)
		wantAccesses(t, a, 0)
		wantWords(t, a, make([]uint64, n))
		if v, e := a.Load(n); v != 0 || e != api.ErrRange {
			t.Errorf("New(%d): Load(%d): %d, %v", n, n, v, e)
		}
	}
}

func TestNewRefusesLengths(t *testing.T) {
	for _, n := range far {
		if a, e := arena.New(n); a != nil || e != api.ErrRange {
			t.Errorf("New(%d): %v, %v", n, a, e)
		}
	}
}

func TestArenasAreApart(t *testing.T) {
	one, other := newArena(t, 4), newArena(t, 4)
	wantStored(t, one, 1, 7)
	wantWords(t, other, []uint64{0, 0, 0, 0})
	wantAccesses(t, other, 4)
	wantAccesses(t, one, 1)
	wantStored(t, other, 1, 8)
	wantWords(t, one, []uint64{0, 7, 0, 0})
}

func TestNilArena(t *testing.T) {
	var a *arena.Arena
	for _, i := range append([]int{0, 1, 64}, far...) {
		if v, e := a.Load(i); v != 0 || e != api.ErrNil {
			t.Errorf("Load(%d): %d, %v", i, v, e)
		}
		if e := a.Store(i, 7); e != api.ErrNil {
			t.Errorf("Store(%d, 7): %v", i, e)
		}
		for _, old := range []uint64{0, 7} {
			if done, e := a.Swap(i, old, 1); done || e != api.ErrNil {
				t.Errorf("Swap(%d, %d, 1): %v, %v", i, old, done, e)
			}
		}
		for _, n := range append([]int{0, 1}, far...) {
			if e := a.Zero(i, n); e != api.ErrNil {
				t.Errorf("Zero(%d, %d): %v", i, n, e)
			}
			if e := a.Move(i, 0, n); e != api.ErrNil {
				t.Errorf("Move(%d, 0, %d): %v", i, n, e)
			}
			if e := a.Move(0, i, n); e != api.ErrNil {
				t.Errorf("Move(0, %d, %d): %v", i, n, e)
			}
		}
		if a.Len() != 0 || a.Accesses() != 0 {
			t.Errorf("a nil arena has %d words and %d accesses", a.Len(), a.Accesses())
		}
	}
}

// An arena that is made by hand has no words, and answers as one of New(0) does.
func TestArenaByHand(t *testing.T) {
	a := &arena.Arena{}
	wantWords(t, a, nil)
	wantRefused(t, a, []int{0, 1, -1})
	if e := a.Zero(0, 0); e != api.OK {
		t.Error(e)
	}
	wantAccesses(t, a, 0)
}

// P3.2

// words64 have bits at both ends, and both halves, so that none may be lost.
var words64 = []uint64{0, 1, 7, 1 << 31, 1 << 32, 1<<32 - 1, 1 << 63, 1<<63 - 1, 0x0123456789abcdef, math.MaxUint64 - 1, math.MaxUint64}

func TestStoreAndLoadEachWord(t *testing.T) {
	for _, n := range lengths {
		a, m := numbered(t, n)
		for at := range m {
			for _, v := range words64 {
				wantStored(t, a, at, v)
				wantLoaded(t, a, at, v)
				wantLoaded(t, a, at, v)
			}
			m[at] = uint64(at) << 40
			wantStored(t, a, at, m[at])
			wantWords(t, a, m)
		}
	}
}

func TestSwapEachWord(t *testing.T) {
	for _, n := range lengths {
		a, m := numbered(t, n)
		for at := range m {
			was := m[at]
			for _, bit := range []uint64{1, 1 << 31, 1 << 32, 1 << 63} {
				wantSwapped(t, a, at, was^bit, 5, false)
			}
			wantSwapped(t, a, at, 5, was, false)
			wantWords(t, a, m)
			m[at] = uint64(at) << 40
			wantSwapped(t, a, at, was, m[at], true)
			wantWords(t, a, m)
			wantSwapped(t, a, at, was, 5, false)
			wantWords(t, a, m)
		}
	}
}

func TestSwapOfAllBits(t *testing.T) {
	a := newArena(t, 1)
	for _, old := range words64 {
		for _, now := range words64 {
			wantStored(t, a, 0, old)
			wantSwapped(t, a, 0, old, now, true)
			wantLoaded(t, a, 0, now)
			// What is swapped for itself is a swap all the same.
			wantSwapped(t, a, 0, now, now, true)
			wantLoaded(t, a, 0, now)
		}
	}
}

// wantRefused asks for words that aren't there.
func wantRefused(t *testing.T, a *arena.Arena, addresses []int) {
	t.Helper()
	for _, at := range addresses {
		if v, e := a.Load(at); v != 0 || e != api.ErrRange {
			t.Errorf("%d words: Load(%d): %d, %v", a.Len(), at, v, e)
		}
		if e := a.Store(at, 7); e != api.ErrRange {
			t.Errorf("%d words: Store(%d, 7): %v", a.Len(), at, e)
		}
		for _, old := range []uint64{0, 7, 100} {
			if done, e := a.Swap(at, old, 7); done || e != api.ErrRange {
				t.Errorf("%d words: Swap(%d, %d, 7): %v, %v", a.Len(), at, old, done, e)
			}
		}
	}
}

func TestWordsThatAreNotThere(t *testing.T) {
	for _, n := range lengths {
		a, m := numbered(t, n)
		wantRefused(t, a, beside(n))
		wantWords(t, a, m)
	}
}

func TestFirstAndLastOfTheMostWords(t *testing.T) {
	a := newArena(t, api.MaxWords)
	last := api.MaxWords - 1
	wantStored(t, a, 0, 3)
	wantStored(t, a, last, 4)
	wantSwapped(t, a, last, 4, 5, true)
	wantLoaded(t, a, 0, 3)
	wantLoaded(t, a, last, 5)
	wantLoaded(t, a, last-1, 0)
	wantRefused(t, a, []int{-1, api.MaxWords})
	if e := a.Move(1, 0, last); e != api.OK {
		t.Error(e)
	}
	wantLoaded(t, a, 1, 3)
	wantLoaded(t, a, last, 0)
	if e := a.Zero(0, api.MaxWords); e != api.OK {
		t.Error(e)
	}
	wantLoaded(t, a, 0, 0)
	wantLoaded(t, a, 1, 0)
}

// P3.3

func TestZeroOfEachRow(t *testing.T) {
	for _, words := range lengths {
		for at := 0; at <= words; at++ {
			for n := 0; n <= words-at; n++ {
				a, m := numbered(t, words)
				clear(m[at : at+n])
				if e := a.Zero(at, n); e != api.OK {
					t.Fatalf("%d words: Zero(%d, %d): %v", words, at, n, e)
				}
				wantWords(t, a, m)
			}
		}
	}
}

// moved is what the words are behind a move, by way of a copy of all of them.
func moved(m []uint64, to, from, n int) []uint64 {
	now := slices.Clone(m)
	for i := range n {
		now[to+i] = m[from+i]
	}
	return now
}

// Rows apart, beside one another, overlapping in both directions, and moved onto themselves.
func TestMoveOfEachTwoRows(t *testing.T) {
	for words := range 13 {
		for to := 0; to <= words; to++ {
			for from := 0; from <= words; from++ {
				for n := 0; n <= words-max(to, from); n++ {
					a, m := numbered(t, words)
					if e := a.Move(to, from, n); e != api.OK {
						t.Fatalf("%d words: Move(%d, %d, %d): %v", words, to, from, n, e)
					}
					wantWords(t, a, moved(m, to, from, n))
				}
			}
		}
	}
}

func TestMoveOfGreatRowsThatOverlap(t *testing.T) {
	const words = 5000
	for _, by := range []int{1, 7, 8, 63, 64, 1000, 2500, 4999} {
		for _, r := range [][2]int{{by, 0}, {0, by}} {
			a, m := numbered(t, words)
			if e := a.Move(r[0], r[1], words-by); e != api.OK {
				t.Fatalf("Move(%d, %d, %d): %v", r[0], r[1], words-by, e)
			}
			wantWords(t, a, moved(m, r[0], r[1], words-by))
		}
	}
}

// isRow tells, by plain steps, whether there is a row: its addresses are asked one by one, so that no sum wraps round.
func isRow(words, at, n int) bool {
	if at < 0 || n < 0 || at > words {
		return false
	}
	for ; n > 0; n-- {
		if at == words {
			return false
		}
		at++
	}
	return true
}

// wantRow asks whether there is a row for Zero, and for either row of Move, the other one of which is there, or isn't either.
func wantRow(t *testing.T, words, at, n int) {
	t.Helper()
	want := api.ErrRange
	if isRow(words, at, n) {
		want = api.OK
	}
	a, m := numbered(t, words)
	if e := a.Move(at, at, n); e != want {
		t.Fatalf("%d words: Move(%d, %d, %d): %v", words, at, at, n, e)
	}
	for _, other := range []int{0, words, words - n, -1, words + 1} {
		if want == api.OK && isRow(words, other, n) {
			continue
		}
		if e := a.Move(at, other, n); e != api.ErrRange {
			t.Fatalf("%d words: Move(%d, %d, %d): %v", words, at, other, n, e)
		}
		if e := a.Move(other, at, n); e != api.ErrRange {
			t.Fatalf("%d words: Move(%d, %d, %d): %v", words, other, at, n, e)
		}
	}
	wantWords(t, a, m)
	if e := a.Zero(at, n); e != want {
		t.Fatalf("%d words: Zero(%d, %d): %v", words, at, n, e)
	}
	if want != api.OK {
		wantWords(t, a, m)
	}
}

func TestRowsThatAreNotThere(t *testing.T) {
	for _, words := range lengths {
		numbers := beside(words)
		for i := range words {
			numbers = append(numbers, i)
		}
		for _, at := range numbers {
			for _, n := range numbers {
				wantRow(t, words, at, n)
			}
		}
	}
}

// A row of no words may lie at the end, but not behind it, nor ahead of the first word.
func TestRowsOfNoWords(t *testing.T) {
	a, m := numbered(t, 10)
	for at := range 11 {
		if e := a.Zero(at, 0); e != api.OK {
			t.Errorf("Zero(%d, 0): %v", at, e)
		}
		if e := a.Move(at, 10-at, 0); e != api.OK {
			t.Errorf("Move(%d, %d, 0): %v", at, 10-at, e)
		}
	}
	for _, at := range append([]int{11, 12}, far...) {
		if e := a.Zero(at, 0); e != api.ErrRange {
			t.Errorf("Zero(%d, 0): %v", at, e)
		}
		for _, r := range [][2]int{{at, 0}, {0, at}, {at, 10}, {10, at}, {at, at}} {
			if e := a.Move(r[0], r[1], 0); e != api.ErrRange {
				t.Errorf("Move(%d, %d, 0): %v", r[0], r[1], e)
			}
		}
	}
	wantWords(t, a, m)
}

// Each of the two rows may be the one of which the last word isn't there.
func TestEitherRowOfMoveIsAsked(t *testing.T) {
	a, m := numbered(t, 10)
	for _, r := range [][3]int{
		{2, 0, 9}, {0, 2, 9}, {10, 0, 1}, {0, 10, 1}, {-1, 0, 1}, {0, -1, 1}, {0, 0, -1}, {0, 0, 11}, {5, 5, 6},
		{1, 0, math.MaxInt}, {0, 1, math.MaxInt}, {math.MaxInt, 0, 1}, {0, math.MaxInt, 1}, {math.MaxInt, math.MaxInt, math.MaxInt},
		{math.MinInt, 0, math.MinInt}, {0, math.MinInt, math.MinInt}, {math.MinInt, math.MinInt, 5}, {1 << 62, 0, 1 << 62},
	} {
		if e := a.Move(r[0], r[1], r[2]); e != api.ErrRange {
			t.Errorf("Move(%d, %d, %d): %v", r[0], r[1], r[2], e)
		}
	}
	wantWords(t, a, m)
}

// Accesses (Types, P3.3)

func TestWhichCallsAreAccesses(t *testing.T) {
	a := newArena(t, 10)
	wantAccesses(t, a, 0)
	wantStored(t, a, 9, 7)
	wantAccesses(t, a, 1)
	wantStored(t, a, 9, 7)
	wantAccesses(t, a, 2)
	wantLoaded(t, a, 9, 7)
	wantAccesses(t, a, 3)
	wantSwapped(t, a, 9, 6, 1, false)
	wantAccesses(t, a, 4)
	wantSwapped(t, a, 9, 7, 1, true)
	wantAccesses(t, a, 5)
	for _, e := range []api.Errno{a.Zero(0, 4), a.Zero(0, 0), a.Move(5, 9, 1), a.Move(0, 1, 9), a.Move(3, 3, 0)} {
		if e != api.OK {
			t.Error(e)
		}
	}
	if a.Len() != 10 {
		t.Error(a.Len())
	}
	wantAccesses(t, a, 5)
	wantRefused(t, a, beside(10))
	for _, e := range []api.Errno{a.Zero(0, 11), a.Zero(-1, 0), a.Move(2, 0, 9), a.Move(0, 2, 9)} {
		if e != api.ErrRange {
			t.Error(e)
		}
	}
	wantAccesses(t, a, 5)
	wantLoaded(t, a, 0, 0)
	wantAccesses(t, a, 6)
}

// The chapter's example, step by step.
func TestExample(t *testing.T) {
	a := newArena(t, 10)
	wantStored(t, a, 9, 7)
	wantLoaded(t, a, 9, 7)
	if v, e := a.Load(10); v != 0 || e != api.ErrRange {
		t.Error(v, e)
	}
	wantSwapped(t, a, 9, 6, 1, false)
	wantSwapped(t, a, 9, 7, 1, true)
	if e := a.Move(5, 9, 1); e != api.OK {
		t.Error(e)
	}
	wantLoaded(t, a, 5, 1)
	if e := a.Move(1, 0, 9); e != api.OK {
		t.Error(e)
	}
	if e := a.Move(2, 0, 9); e != api.ErrRange {
		t.Error(e)
	}
	if e := a.Zero(10, 0); e != api.OK {
		t.Error(e)
	}
	if e := a.Zero(0, -1); e != api.ErrRange {
		t.Error(e)
	}
	wantAccesses(t, a, 5)
}
