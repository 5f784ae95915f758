package buffer_test

import (
	"math"
	"slices"
	"testing"

	"gleaner/api"
	"gleaner/buffer"
)

// maxWords is the bound of words, written out, so that the tests don't lean on what the package leans on.
const maxWords = 4194304

// far are numbers of no word and no size, at both ends of what an int can be and where sums and differences wrap round.
var far = []int{
	math.MinInt, math.MinInt + 1, math.MinInt + 64, math.MinInt + maxWords, math.MinInt + maxWords + 1, -1 << 62, -1<<32 - 1, -1 << 32, 1 - 1<<32,
	-maxWords - 1, -maxWords, 1 - maxWords, -75, -74, -65, -64, -2, -1,
	maxWords + 1, maxWords + 2, 2 * maxWords, 1<<31 - 1, 1 << 31, 1<<32 - 1, 1 << 32, 1<<32 + 1, 1<<32 + 64, 1 << 62, 1<<62 + 1,
	math.MaxInt - maxWords, math.MaxInt - maxWords + 1, math.MaxInt - 74, math.MaxInt - 73, math.MaxInt - 64, math.MaxInt - 63, math.MaxInt - 1, math.MaxInt,
}

// piece is a row of words: from an address to another.
type piece struct{ from, to int }

// smallPieces have up to six words, or none, from 0 on and elsewhere, up to the last word that there may be.
func smallPieces() []piece {
	var all []piece
	for words := range 7 {
		for _, from := range []int{0, 1, 2, 63, 64, 1000, maxWords/2 - 1, maxWords - 7, maxWords - words} {
			all = append(all, piece{from, from + words})
		}
	}
	return all
}

// greatPieces have the most words, or nearly so.
func greatPieces() []piece {
	return []piece{
		{0, maxWords}, {0, maxWords - 1}, {1, maxWords}, {1, maxWords - 1}, {maxWords / 2, maxWords}, {0, maxWords / 2}, {maxWords - 64, maxWords},
	}
}

// model is the plainest buffer: where its words end, and how many of so many are taken.
type model struct{ end, words, taken int }

func modelOf(p piece) model {
	if p.from == p.to {
		return model{}
	}
	return model{end: p.to, words: p.to - p.from}
}

func (m *model) left() int { return m.words - m.taken }

func (m *model) rest() piece {
	if m.words == 0 {
		return piece{}
	}
	return piece{m.end - m.left(), m.end}
}

func (m *model) take(n int) (int, api.Errno) {
	switch {
	case n <= 0:
		return 0, api.ErrRange
	case m.left() < n:
		return 0, api.ErrFull
	}
	m.taken += n
	return m.end - m.left() - n, api.OK
}

func (m *model) drop() piece {
	was := m.rest()
	*m = model{}
	return was
}

// both are a buffer and its model.
type both struct {
	b buffer.Buffer
	m model
}

func newBoth(t *testing.T, p piece) both {
	t.Helper()
	b, e := buffer.New(p.from, p.to)
	if e != api.OK {
		t.Fatalf("New(%d, %d): %v", p.from, p.to, e)
	}
	return both{b, modelOf(p)}
}

// wantKnown holds all that a buffer tells of itself against the model, twice, since telling may change nothing.
func (x *both) wantKnown(t *testing.T) {
	t.Helper()
	for range 2 {
		if n := x.b.Left(); n != x.m.left() {
			t.Fatalf("%+v: Left %d", x.m, n)
		}
		if from, to := x.b.Rest(); (piece{from, to}) != x.m.rest() {
			t.Fatalf("%+v: Rest %d, %d", x.m, from, to)
		}
	}
}

func (x *both) take(t *testing.T, n int) {
	t.Helper()
	was := x.m
	want, wantE := x.m.take(n)
	if at, e := x.b.Take(n); at != want || e != wantE {
		t.Fatalf("%+v: Take(%d): %d, %v, not %d, %v", was, n, at, e, want, wantE)
	}
	x.wantKnown(t)
}

func (x *both) drop(t *testing.T) {
	t.Helper()
	was := x.m
	want := x.m.drop()
	if from, to := x.b.Drop(); (piece{from, to}) != want {
		t.Fatalf("%+v: Drop: %d, %d", was, from, to)
	}
	x.wantKnown(t)
}

// refuse makes each call that may not be done, so that what it changes is seen.
func (x *both) refuse(t *testing.T) {
	t.Helper()
	left := x.m.left()
	for _, n := range append([]int{0, left + 1, left + 2, -left, ^left, math.MaxInt - x.m.end, math.MaxInt - x.m.end + left + 1, math.MinInt + left}, far...) {
		if n < 1 || n > left {
			x.take(t, n)
		}
	}
}

// pieces gives each way to cut so many words into pieces, in each order.
func pieces(words int, each func(sizes []int)) {
	if words == 0 {
		each(nil)
		return
	}
	for first := 1; first <= words; first++ {
		pieces(words-first, func(sizes []int) { each(append([]int{first}, sizes...)) })
	}
}

// P8.1

// Each two small numbers, and those about the bounds.
func TestNewOfEachTwo(t *testing.T) {
	numbers := append([]int{maxWords - 2, maxWords - 1, maxWords, maxWords / 2}, far...)
	for n := range 80 {
		numbers = append(numbers, n)
	}
	for _, from := range numbers {
		for _, to := range numbers {
			if from >= 0 && from <= to && to <= maxWords {
				x := newBoth(t, piece{from, to})
				x.wantKnown(t)
				continue
			}
			if b, e := buffer.New(from, to); e != api.ErrRange || b != (buffer.Buffer{}) {
				t.Fatalf("New(%d, %d): %v, %v", from, to, b, e)
			}
		}
	}
}

// The edges that the promise names, each with its answer written out.
func TestNewAtTheEdges(t *testing.T) {
	for _, r := range []struct {
		from, to int
		e        api.Errno
		left     int
		rest     piece
	}{
		{-1, 4, api.ErrRange, 0, piece{}},
		{-1, -1, api.ErrRange, 0, piece{}},
		{-1, 0, api.ErrRange, 0, piece{}},
		{-2, -1, api.ErrRange, 0, piece{}},
		{0, -1, api.ErrRange, 0, piece{}},
		{0, 0, api.OK, 0, piece{}},
		{0, 1, api.OK, 1, piece{0, 1}},
		{1, 0, api.ErrRange, 0, piece{}},
		{5, 4, api.ErrRange, 0, piece{}},
		{5, 5, api.OK, 0, piece{}},
		{5, 6, api.OK, 1, piece{5, 6}},
		{0, 4194304, api.OK, 4194304, piece{0, 4194304}},
		{0, 4194305, api.ErrRange, 0, piece{}},
		{4194303, 4194304, api.OK, 1, piece{4194303, 4194304}},
		{4194304, 4194304, api.OK, 0, piece{}},
		{4194304, 4194303, api.ErrRange, 0, piece{}},
		{4194304, 4194305, api.ErrRange, 0, piece{}},
		{4194305, 4194305, api.ErrRange, 0, piece{}},
		{4194305, 4194304, api.ErrRange, 0, piece{}},
		{-1, 4194305, api.ErrRange, 0, piece{}},
		// Of these the difference wraps round to a number of words that may be.
		{math.MinInt, math.MaxInt, api.ErrRange, 0, piece{}},
		{math.MaxInt, math.MinInt, api.ErrRange, 0, piece{}},
		{math.MaxInt, math.MinInt + 9, api.ErrRange, 0, piece{}},
		{math.MinInt, 4194304, api.ErrRange, 0, piece{}},
		{math.MinInt, math.MinInt, api.ErrRange, 0, piece{}},
		{math.MaxInt - 9, math.MaxInt, api.ErrRange, 0, piece{}},
		{math.MaxInt, math.MaxInt, api.ErrRange, 0, piece{}},
		{math.MaxInt, 0, api.ErrRange, 0, piece{}},
		{0, math.MaxInt, api.ErrRange, 0, piece{}},
		{0, math.MinInt, api.ErrRange, 0, piece{}},
		// Of these the lowest 32 bits alone are words.
		{1 << 32, 1<<32 + 9, api.ErrRange, 0, piece{}},
		{0, 1<<32 + 9, api.ErrRange, 0, piece{}},
		{-1 << 32, 9, api.ErrRange, 0, piece{}},
	} {
		b, e := buffer.New(r.from, r.to)
		from, to := b.Rest()
		if e != r.e || b.Left() != r.left || (piece{from, to}) != r.rest {
			t.Errorf("New(%d, %d): %v; Left %d; Rest %d, %d", r.from, r.to, e, b.Left(), from, to)
		}
		if r.left == 0 && b != (buffer.Buffer{}) {
			t.Errorf("New(%d, %d): %v", r.from, r.to, b)
		}
	}
}

// Each call of a nil buffer, of each number.
func TestNilBuffer(t *testing.T) {
	var none *buffer.Buffer
	for _, n := range append([]int{0, 1, 2, maxWords - 1, maxWords}, far...) {
		if at, e := none.Take(n); at != 0 || e != api.ErrNil {
			t.Errorf("Take(%d): %d, %v", n, at, e)
		}
		if n := none.Left(); n != 0 {
			t.Errorf("Left: %d", n)
		}
		if from, to := none.Rest(); from != 0 || to != 0 {
			t.Errorf("Rest: %d, %d", from, to)
		}
		if from, to := none.Drop(); from != 0 || to != 0 {
			t.Errorf("Drop: %d, %d", from, to)
		}
	}
}

// The zero Buffer, that of no words and that which a refused New gives have no words.
func TestBuffersWithoutWords(t *testing.T) {
	var zero buffer.Buffer
	refused, _ := buffer.New(64, 63)
	for i, b := range []buffer.Buffer{zero, refused, newBoth(t, piece{0, 0}).b, newBoth(t, piece{9, 9}).b, newBoth(t, piece{maxWords, maxWords}).b} {
		if b != zero {
			t.Errorf("%d: %v", i, b)
		}
		x := both{b: b}
		x.wantKnown(t)
		x.refuse(t)
		x.take(t, 1)
		x.drop(t)
		x.take(t, 1)
		x.refuse(t)
		x.drop(t)
	}
}

// P8.2

// Each number from below 1 to more than are left, of each small buffer, taken in part by one piece.
func TestTakeOfEachNumber(t *testing.T) {
	for _, p := range smallPieces() {
		for taken := range p.to - p.from + 1 {
			for n := -2; n <= p.to-p.from+2; n++ {
				x := newBoth(t, p)
				if taken > 0 {
					x.take(t, taken)
				}
				x.take(t, n)
				x.take(t, n)
			}
		}
	}
}

// Words are taken in pieces of each size and order till none is left; between them is asked for what may not be taken.
func TestTakeInPieces(t *testing.T) {
	for _, p := range smallPieces() {
		pieces(p.to-p.from, func(sizes []int) {
			x := newBoth(t, p)
			x.refuse(t)
			for _, n := range sizes {
				x.take(t, n)
				x.refuse(t)
			}
			if from, to := x.b.Rest(); x.b.Left() != 0 || from != to || p.from < p.to && to != p.to {
				t.Fatalf("%v, %v: Left %d; Rest %d, %d", p, sizes, x.b.Left(), from, to)
			}
			x.take(t, 1)
		})
	}
}

// A buffer of which all words are taken isn't one without words: its Rest is where it ends.
func TestWhollyTaken(t *testing.T) {
	for _, p := range append(greatPieces(), piece{0, 1}, piece{64, 74}, piece{maxWords - 1, maxWords}) {
		x := newBoth(t, p)
		x.take(t, p.to-p.from)
		if from, to := x.b.Rest(); from != p.to || to != p.to || x.b.Left() != 0 {
			t.Errorf("%v: Rest %d, %d; Left %d", p, from, to, x.b.Left())
		}
		x.refuse(t)
		if from, to := x.b.Drop(); from != p.to || to != p.to {
			t.Errorf("%v: Drop %d, %d", p, from, to)
		}
		if from, to := x.b.Rest(); from != 0 || to != 0 {
			t.Errorf("%v: Rest %d, %d", p, from, to)
		}
	}
}

// The most words: one by one from both ends of what is left, all but one, all, and one more.
func TestTakeOfTheMostWords(t *testing.T) {
	for _, p := range greatPieces() {
		words := p.to - p.from
		for _, taken := range []int{0, 1, 2, words / 2, words - 2, words - 1} {
			for _, over := range []int{1, 0, -1} {
				x := newBoth(t, p)
				if taken > 0 {
					x.take(t, taken)
				}
				x.refuse(t)
				x.take(t, words-taken+over)
				x.take(t, 1)
				x.take(t, 1)
				x.refuse(t)
			}
		}
	}
}

// Each word of the most is taken by a call of its own, and has its own address.
func TestTakeWordByWord(t *testing.T) {
	b := newBoth(t, piece{0, maxWords}).b
	for word := range maxWords {
		if at, e := b.Take(1); at != word || e != api.OK || b.Left() != maxWords-word-1 {
			t.Fatalf("word %d: %d, %v; Left %d", word, at, e, b.Left())
		}
	}
	if at, e := b.Take(1); at != 0 || e != api.ErrFull {
		t.Errorf("one more: %d, %v", at, e)
	}
}

// Numbers that wrap round, be they added to the word that is next, to the end, or to what is left, are told as others are.
func TestTakeOfNumbersThatWrapRound(t *testing.T) {
	for _, p := range append(smallPieces(), greatPieces()...) {
		for _, taken := range []int{0, 1, (p.to - p.from) / 2, p.to - p.from} {
			x := newBoth(t, p)
			if taken > 0 && taken <= p.to-p.from {
				x.take(t, taken)
			}
			for _, near := range []int{0, p.from, p.to, x.m.left(), x.m.taken, x.m.rest().from} {
				for d := -2; d <= 2; d++ {
					x.take(t, math.MaxInt-2-near+d)
					x.take(t, math.MinInt+2+near+d)
					x.take(t, -near-3+d)
				}
			}
		}
	}
}

// Of a number below 1 that is told, also where no word is left and where there is none.
func TestRangeIsToldAheadOfFull(t *testing.T) {
	full := newBoth(t, piece{3, 5})
	full.take(t, 2)
	dropped := newBoth(t, piece{3, 5})
	dropped.drop(t)
	for i, b := range []buffer.Buffer{newBoth(t, piece{3, 5}).b, full.b, dropped.b, {}} {
		for _, n := range []int{0, -1, -2, -3, -5, -6, math.MinInt, math.MinInt + 1, math.MinInt + 5} {
			if at, e := b.Take(n); at != 0 || e != api.ErrRange {
				t.Errorf("%d: Take(%d): %d, %v", i, n, at, e)
			}
		}
		for _, n := range []int{3, 4, 5, math.MaxInt, math.MaxInt - 3} {
			if at, e := b.Take(n); at != 0 || e != api.ErrFull {
				t.Errorf("%d: Take(%d): %d, %v", i, n, at, e)
			}
		}
	}
}

// P8.3

// A buffer is dropped behind each number of pieces: it has no words, whatever is asked of it, and a second Drop tells of none.
func TestDropBehindEachPiece(t *testing.T) {
	for _, p := range smallPieces() {
		pieces(p.to-p.from, func(sizes []int) {
			for count := range len(sizes) + 1 {
				x := newBoth(t, p)
				for _, n := range sizes[:count] {
					x.take(t, n)
				}
				x.drop(t)
				x.refuse(t)
				x.take(t, 1)
				for range 2 {
					if from, to := x.b.Drop(); from != 0 || to != 0 || x.b.Left() != 0 {
						t.Fatalf("%v: Drop again: %d, %d; Left %d", p, from, to, x.b.Left())
					}
					x.wantKnown(t)
				}
			}
		})
	}
}

// A refused Take ahead of a Drop doesn't change what it tells.
func TestDropBehindRefusals(t *testing.T) {
	for _, p := range append(smallPieces(), greatPieces()...) {
		for _, taken := range []int{0, 1, p.to - p.from} {
			x := newBoth(t, p)
			if taken > 0 && taken <= p.to-p.from {
				x.take(t, taken)
			}
			x.refuse(t)
			x.drop(t)
		}
	}
}

// A buffer that was dropped may be given words anew, at the same place as ahead.
func TestDroppedAndGivenAnew(t *testing.T) {
	x := newBoth(t, piece{64, 74})
	x.take(t, 4)
	x.drop(t)
	for range 3 {
		x = newBoth(t, piece{64, 74})
		x.take(t, 10)
		x.take(t, 1)
		x.drop(t)
	}
}

// P8.4

// numbers gives numbers from all over by a rule that is always the same.
type numbers uint64

func (n *numbers) below(bound int) int {
	*n = *n*6364136223846793005 + 1442695040888963407
	return int(uint64(*n) >> 33 % uint64(bound))
}

// What is taken lies within the buffer's words, each word is taken once, and none is left out.
func TestTakenLieOneBehindTheOther(t *testing.T) {
	var n numbers = 5
	for round := range 400 {
		from := n.below(300)
		to := from + n.below(200)
		b := newBoth(t, piece{from, to}).b
		var got, want []int
		for word := from; word < to; word++ {
			want = append(want, word)
		}
		for b.Left() > 0 {
			size := n.below(to-from+3) - 1
			if round%2 == 0 {
				size = n.below(7) - 1
			}
			left := b.Left()
			at, e := b.Take(size)
			if (e == api.OK) != (size >= 1 && size <= left) {
				t.Fatalf("Take(%d) of %d: %v", size, left, e)
			}
			for i := range size {
				if e == api.OK {
					got = append(got, at+i)
				}
			}
		}
		if !slices.Equal(got, want) {
			t.Fatalf("%d to %d: %v", from, to, got)
		}
	}
}

// Buffers side by side never give a word that another one has.
func TestBuffersNeverOverlap(t *testing.T) {
	const words, count = 640, 10
	var n numbers = 11
	for range 60 {
		owner := make([]int, words)
		all := make([]buffer.Buffer, count)
		for i := range all {
			all[i] = newBoth(t, piece{i * words / count, (i + 1) * words / count}).b
		}
		for range 400 {
			i, size := n.below(count), n.below(24)-1
			at, e := all[i].Take(size)
			if e != api.OK {
				continue
			}
			for word := at; word < at+size; word++ {
				if word*count/words != i || owner[word] != 0 {
					t.Fatalf("buffer %d took the word %d, which is %d's", i, word, owner[word])
				}
				owner[word] = i + 1
			}
		}
		for i := range all {
			first, behind := all[i].Drop()
			for word := i * words / count; word < (i+1)*words/count; word++ {
				if (owner[word] == 0) != (word >= first && word < behind) {
					t.Fatalf("buffer %d dropped %d to %d; the word %d is %d's", i, first, behind, word, owner[word])
				}
			}
		}
	}
}

// A copy goes its own way: what is done to one changes nothing of the other.
func TestCopiesGoTheirOwnWay(t *testing.T) {
	for _, p := range append(smallPieces(), piece{64, 74}, piece{0, maxWords}) {
		one := newBoth(t, p)
		if p.to > p.from {
			one.take(t, 1)
		}
		other := one
		other.take(t, 1)
		one.wantKnown(t)
		one.take(t, 2)
		other.wantKnown(t)
		third := other
		other.drop(t)
		one.wantKnown(t)
		third.wantKnown(t)
		one.take(t, 1)
		one.drop(t)
		third.wantKnown(t)
		third.take(t, 1)
		other.wantKnown(t)
		third.drop(t)
		one.wantKnown(t)
	}
}

// Of two buffers, be their words the same, side by side or apart, what is done to one is of no matter to the other; one that a pointer leads to is no copy.
func TestTwoBuffers(t *testing.T) {
	for _, ps := range [][2]piece{{{64, 74}, {64, 74}}, {{64, 74}, {74, 84}}, {{0, 8}, {100, 108}}, {{5, 5}, {0, 9}}, {{0, maxWords}, {1, maxWords}}} {
		one, other := newBoth(t, ps[0]), newBoth(t, ps[1])
		for range 4 {
			one.take(t, 2)
			other.wantKnown(t)
			other.take(t, 3)
			one.wantKnown(t)
		}
		one.drop(t)
		other.wantKnown(t)
		other.drop(t)
		one.wantKnown(t)
	}
	b := newBoth(t, piece{64, 74}).b
	first, same := &b, &b
	first.Take(4)
	if at, e := same.Take(6); at != 68 || e != api.OK || first.Left() != 0 {
		t.Errorf("Take: %d, %v; Left %d", at, e, first.Left())
	}
}

// All calls, one behind the other by a rule, of several buffers: what was told ahead is all that an answer hangs on.
func TestManyCalls(t *testing.T) {
	var n numbers = 3
	all := make([]both, 5)
	for range 40000 {
		x := &all[n.below(len(all))]
		switch n.below(9) {
		case 0:
			from := n.below(100)
			*x = newBoth(t, piece{from, from + n.below(40)})
		case 1:
			x.drop(t)
		case 2:
			*x = all[n.below(len(all))]
		case 3:
			x.refuse(t)
		default:
			x.take(t, n.below(12)-1)
		}
		for i := range all {
			all[i].wantKnown(t)
		}
	}
}

// The chapter's examples, in their order.
func TestExamples(t *testing.T) {
	b, e := buffer.New(64, 74)
	if e != api.OK || b.Left() != 10 {
		t.Fatal(e, b.Left())
	}
	for _, r := range []struct {
		n, at int
		e     api.Errno
	}{{4, 64, api.OK}, {6, 68, api.OK}, {1, 0, api.ErrFull}} {
		if at, e := b.Take(r.n); at != r.at || e != r.e {
			t.Errorf("Take(%d): %d, %v", r.n, at, e)
		}
	}
	if from, to := b.Rest(); from != 74 || to != 74 {
		t.Errorf("Rest: %d, %d", from, to)
	}
	b, _ = buffer.New(64, 74)
	if at, e := b.Take(11); at != 0 || e != api.ErrFull {
		t.Errorf("Take(11): %d, %v", at, e)
	}
	if at, e := b.Take(0); at != 0 || e != api.ErrRange {
		t.Errorf("Take(0): %d, %v", at, e)
	}
	if from, to := b.Drop(); from != 64 || to != 74 || b.Left() != 0 {
		t.Errorf("Drop: %d, %d; Left %d", from, to, b.Left())
	}
	if from, to := b.Rest(); from != 0 || to != 0 {
		t.Errorf("Rest: %d, %d", from, to)
	}
	if _, e := buffer.New(5, 4); e != api.ErrRange {
		t.Errorf("New(5, 4): %v", e)
	}
}
