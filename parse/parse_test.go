package parse_test

import (
	"math"
	"slices"
	"testing"

	"gleaner/api"
	"gleaner/arena"
	"gleaner/parse"
)

// maxSize is the chapter's bound, written out, so that the tests don't lean on what the package leans on.
const maxSize = 1048576

// junk is no header's word, and stands where nothing may be written.
const junk = math.MaxUint64 - 3

// The words of headers by the sums of chapter 4, without shifts.

func object(size, ptrs, age int) uint64 {
	return 1 + uint64(size)*4 + uint64(ptrs)*8388608 + uint64(age)*17592186044416
}

func filler(size int) uint64 {
	return 2 + uint64(size)*4
}

func forward(size, to int) uint64 {
	return 3 + uint64(size)*4 + uint64(to)*8388608
}

// headerOf is a word's header by division, and whether it is one, of whatever kind but none.
func headerOf(w uint64) (api.Header, bool) {
	kind, size, rest := api.HeadKind(w%4), int(w/4%2097152), w/8388608
	h := api.Header{Kind: kind, Size: size}
	sized := size >= 1 && size <= maxSize
	switch kind {
	case api.HeadObject:
		h.Ptrs, h.Age = int(rest%2097152), int(rest/2097152)
		return h, sized && h.Ptrs < size && rest/2097152 < 8
	case api.HeadFiller:
		return h, sized && rest == 0
	case api.HeadForward:
		h.To = int(rest)
		return h, sized && rest < 4194304
	}
	return h, false
}

// Plain models: what each call must answer of these words.

// shaped tells whether an object of Age 0 may have these numbers.
func shaped(size, ptrs int) bool {
	return size >= 1 && size <= maxSize && ptrs >= 0 && ptrs < size
}

// isThere tells whether there are size words from at on; size is at most maxSize, so that no sum wraps round.
func isThere(m []uint64, at, size int) bool {
	return at >= 0 && at < len(m) && at+size <= len(m)
}

// isRange tells whether from and to are the ends of words that are there.
func isRange(m []uint64, from, to int) bool {
	return from >= 0 && from <= to && to <= len(m)
}

func made(m []uint64, at, size, ptrs int) ([]uint64, api.Errno) {
	if !shaped(size, ptrs) {
		return m, api.ErrShape
	}
	if !isThere(m, at, size) {
		return m, api.ErrRange
	}
	now := slices.Clone(m)
	clear(now[at : at+size])
	now[at] = object(size, ptrs, 0)
	return now, api.OK
}

func filled(m []uint64, from, to int) ([]uint64, api.Errno) {
	if !isRange(m, from, to) {
		return m, api.ErrRange
	}
	now := slices.Clone(m)
	for ; to-from >= maxSize; from += maxSize {
		now[from] = filler(maxSize)
	}
	if from < to {
		now[from] = filler(to - from)
	}
	return now, api.OK
}

func headerAt(m []uint64, at int) (api.Header, api.Errno) {
	if at < 0 || at >= len(m) {
		return api.Header{}, api.ErrRange
	}
	h, is := headerOf(m[at])
	if !is {
		return api.Header{}, api.ErrBroken
	}
	return h, api.OK
}

func fieldsAt(m []uint64, at int) ([]int, api.Errno) {
	h, e := headerAt(m, at)
	if e != api.OK {
		return nil, e
	}
	if h.Kind != api.HeadObject || !isThere(m, at, h.Size) {
		return nil, api.ErrBroken
	}
	var fields []int
	for f := at + 1; f <= at+h.Ptrs; f++ {
		fields = append(fields, f)
	}
	return fields, api.OK
}

func startsOf(m []uint64, from, to int) ([]int, api.Errno) {
	if !isRange(m, from, to) {
		return nil, api.ErrRange
	}
	var starts []int
	for from < to {
		h, is := headerOf(m[from])
		if !is || h.Kind == api.HeadForward || from+h.Size > to {
			return nil, api.ErrBroken
		}
		starts = append(starts, from)
		from += h.Size
	}
	return starts, api.OK
}

// Arenas and what they hold

// holding is an arena with these words.
func holding(t *testing.T, m []uint64) *arena.Arena {
	a, e := arena.New(len(m))
	if e != api.OK {
		t.Fatalf("New(%d): %v", len(m), e)
	}
	for at, w := range m {
		if e := a.Store(at, w); e != api.OK {
			t.Fatalf("Store(%d, %#x): %v", at, w, e)
		}
	}
	return a
}

// allJunk is so many words that are no header's, and all differ.
func allJunk(words int) []uint64 {
	m := make([]uint64, words)
	for at := range m {
		m[at] = junk - uint64(at)<<32
	}
	return m
}

func wantWords(t *testing.T, a *arena.Arena, want []uint64) {
	t.Helper()
	if a.Len() != len(want) {
		t.Fatalf("Len: %d, not %d", a.Len(), len(want))
	}
	for at := range want {
		if w, e := a.Load(at); w != want[at] || e != api.OK {
			t.Fatalf("the word %d is %#x, %v, not %#x", at, w, e, want[at])
		}
	}
}

// The calls, held against the models

// wantMake makes an object, or is refused, and gives what the words must be then.
func wantMake(t *testing.T, a *arena.Arena, m []uint64, at, size, ptrs int) []uint64 {
	t.Helper()
	now, want := made(m, at, size, ptrs)
	if e := parse.Make(a, at, size, ptrs); e != want {
		t.Fatalf("%d words: Make(%d, %d, %d): %v, not %v", len(m), at, size, ptrs, e, want)
	}
	wantWords(t, a, now)
	return now
}

// wantFill fills a row, or is refused, and gives what the words must be then.
func wantFill(t *testing.T, a *arena.Arena, m []uint64, from, to int) []uint64 {
	t.Helper()
	now, want := filled(m, from, to)
	if e := parse.Fill(a, from, to); e != want {
		t.Fatalf("%d words: Fill(%d, %d): %v, not %v", len(m), from, to, e, want)
	}
	wantWords(t, a, now)
	return now
}

func wantAt(t *testing.T, a *arena.Arena, m []uint64, at int) {
	t.Helper()
	want, wantE := headerAt(m, at)
	if h, e := parse.At(a, at); h != want || e != wantE {
		t.Fatalf("%#x: At(%d): %+v, %v, not %+v, %v", short(m), at, h, e, want, wantE)
	}
}

func wantFields(t *testing.T, a *arena.Arena, m []uint64, at int) {
	t.Helper()
	want, wantE := fieldsAt(m, at)
	if f, e := parse.Fields(a, at); !slices.Equal(f, want) || e != wantE {
		t.Fatalf("%#x: Fields(%d): %v, %v, not %v, %v", short(m), at, short(f), e, short(want), wantE)
	}
}

func wantStarts(t *testing.T, a *arena.Arena, m []uint64, from, to int) {
	t.Helper()
	want, wantE := startsOf(m, from, to)
	if s, e := parse.Starts(a, from, to); !slices.Equal(s, want) || e != wantE {
		t.Fatalf("%#x: Starts(%d, %d): %v, %v, not %v, %v", short(m), from, to, short(s), e, short(want), wantE)
	}
}

// short is as much of a list as a person reads.
func short[T any](l []T) []T {
	return l[:min(len(l), 12)]
}

// wantNoStarts asks for a row that is none, and must be known to be none without a model.
func wantNoStarts(t *testing.T, a *arena.Arena, from, to int, want api.Errno) {
	t.Helper()
	if s, e := parse.Starts(a, from, to); len(s) != 0 || e != want {
		t.Fatalf("Starts(%d, %d): %v, %v, not %v", from, to, short(s), e, want)
	}
}

// wantRead asks At, Fields and Starts of each address and each two of them, up to two words beyond both ends.
func wantRead(t *testing.T, m []uint64) {
	t.Helper()
	a := holding(t, m)
	for at := -2; at <= len(m)+2; at++ {
		wantAt(t, a, m, at)
		wantFields(t, a, m, at)
		for to := -2; to <= len(m)+2; to++ {
			wantStarts(t, a, m, at, to)
		}
	}
	wantWords(t, a, m)
}

// far are numbers of no word and no size, at both ends of what an int can be and where sums wrap round.
var far = []int{
	math.MinInt, math.MinInt + 1, math.MinInt + 10, -1 << 62, -1 << 32, -maxSize, -2, -1,
	4*maxSize + 1, 1 << 32, 1<<32 + 1, 1 << 62, math.MaxInt - 10, math.MaxInt - 1, math.MaxInt,
}

// around are the numbers about 0 and about a length, and the far ones.
func around(words int) []int {
	all := slices.Clone(far)
	for n := 0; n <= words+2; n++ {
		all = append(all, n)
	}
	return all
}

// P5.1

func TestMakeOfEachObject(t *testing.T) {
	for words := range 8 {
		m := allJunk(words)
		for at := -2; at <= words+2; at++ {
			for size := -2; size <= words+2; size++ {
				for ptrs := -2; ptrs <= words+2; ptrs++ {
					wantMake(t, holding(t, m), m, at, size, ptrs)
				}
			}
		}
	}
}

// Each object at its places in an arena: at the beginning, in the midst, to the last word, and one word behind it.
func TestMakeToTheLastWord(t *testing.T) {
	const words = 100
	for size := 1; size <= words; size++ {
		m := allJunk(words)
		for _, at := range []int{0, (words - size) / 2, words - size, words - size + 1} {
			for _, ptrs := range []int{-1, 0, size / 2, size - 1, size} {
				wantMake(t, holding(t, m), m, at, size, ptrs)
			}
		}
	}
}

func TestMakeOfTheGreatestSize(t *testing.T) {
	const words = maxSize + 2
	m := allJunk(words)
	for _, r := range [][3]int{
		{0, maxSize, maxSize - 1}, {1, maxSize, 0}, {2, maxSize, 5}, {3, maxSize, 0}, {2, maxSize, maxSize}, {2, maxSize, -1},
		{0, maxSize + 1, 0}, {0, maxSize + 1, maxSize}, {0, maxSize + 2, maxSize}, {3, maxSize - 1, maxSize - 2}, {4, maxSize - 1, 0},
	} {
		wantMake(t, holding(t, m), m, r[0], r[1], r[2])
	}
	a := holding(t, m)
	for _, r := range []struct {
		at, size, ptrs int
		e              api.Errno
	}{{2, maxSize, maxSize, api.ErrShape}, {2, maxSize + 1, 0, api.ErrShape}, {3, maxSize, 0, api.ErrRange}, {2, maxSize, maxSize - 1, api.OK}} {
		if e := parse.Make(a, r.at, r.size, r.ptrs); e != r.e {
			t.Errorf("Make(%d, %d, %d): %v, not %v", r.at, r.size, r.ptrs, e, r.e)
		}
	}
}

// In the arena with the most words objects lie at both of its ends.
func TestMakeInTheMostWords(t *testing.T) {
	a, _ := arena.New(api.MaxWords)
	for _, r := range []struct {
		at, size int
		e        api.Errno
	}{{0, maxSize, api.OK}, {api.MaxWords - maxSize, maxSize, api.OK}, {api.MaxWords - maxSize + 1, maxSize, api.ErrRange}, {maxSize, 1, api.OK}, {api.MaxWords - 1, 1, api.OK}, {api.MaxWords - 1, 2, api.ErrRange}, {api.MaxWords, 1, api.ErrRange}} {
		if e := parse.Make(a, r.at, r.size, 0); e != r.e {
			t.Errorf("Make(%d, %d, 0): %v, not %v", r.at, r.size, e, r.e)
		}
		if h, e := parse.At(a, r.at); r.e == api.OK && (h != api.Header{Kind: api.HeadObject, Size: r.size} || e != api.OK) {
			t.Errorf("At(%d): %+v, %v", r.at, h, e)
		}
	}
}

// Numbers that aren't right, and words that aren't there: the header's error is the first.
func TestMakeOfFarNumbers(t *testing.T) {
	const words = 4
	m := allJunk(words)
	numbers := append(around(words), maxSize, maxSize+1, 2*maxSize, 2*maxSize+1)
	for _, at := range numbers {
		for _, size := range numbers {
			for _, ptrs := range numbers {
				wantMake(t, holding(t, m), m, at, size, ptrs)
			}
		}
	}
}

func TestMakeAnswersTheHeaderFirst(t *testing.T) {
	a := holding(t, allJunk(10))
	for _, at := range []int{-1, 0, 9, 10, 11, math.MinInt, math.MaxInt} {
		for _, r := range [][2]int{{0, 0}, {-1, 0}, {3, 3}, {3, -1}, {11, 11}, {maxSize + 1, 0}, {math.MaxInt, 0}, {math.MinInt, 0}} {
			if e := parse.Make(a, at, r[0], r[1]); e != api.ErrShape {
				t.Errorf("Make(%d, %d, %d): %v, not %v", at, r[0], r[1], e, api.ErrShape)
			}
		}
		if e := parse.Make(a, at, 11, 10); e != api.ErrRange {
			t.Errorf("Make(%d, 11, 10): %v, not %v", at, e, api.ErrRange)
		}
	}
	wantWords(t, a, allJunk(10))
}

// An object that is made over others leaves noughts, and nothing of them.
func TestMakeOverObjects(t *testing.T) {
	m := []uint64{object(2, 1, 7), 1, filler(3), 9, 9, object(1, 0, 0), forward(2, 0), 4}
	for at := range m {
		for size := 1; at+size <= len(m); size++ {
			a := holding(t, m)
			now := wantMake(t, a, m, at, size, size-1)
			wantMake(t, a, now, at, size, 0)
		}
	}
}

// A nil arena is asked ahead of all else.
func TestNilArena(t *testing.T) {
	for _, n := range around(3) {
		if h, e := parse.At(nil, n); h != (api.Header{}) || e != api.ErrNil {
			t.Errorf("At(%d): %+v, %v", n, h, e)
		}
		if f, e := parse.Fields(nil, n); len(f) != 0 || e != api.ErrNil {
			t.Errorf("Fields(%d): %v, %v", n, f, e)
		}
		for _, k := range around(3) {
			for _, e := range []api.Errno{parse.Make(nil, n, k, 0), parse.Make(nil, 0, n, k), parse.Make(nil, n, 1, k), parse.Fill(nil, n, k)} {
				if e != api.ErrNil {
					t.Errorf("%d, %d: %v", n, k, e)
				}
			}
			if s, e := parse.Starts(nil, n, k); len(s) != 0 || e != api.ErrNil {
				t.Errorf("Starts(%d, %d): %v, %v", n, k, s, e)
			}
		}
	}
}

// An arena that has no words, or is made by hand, has room for a row of none alone.
func TestArenaWithoutWords(t *testing.T) {
	none, _ := arena.New(0)
	for _, a := range []*arena.Arena{none, {}} {
		for _, n := range around(1) {
			wantMake(t, a, nil, n, 1, 0)
			wantAt(t, a, nil, n)
			wantFields(t, a, nil, n)
			for _, k := range around(1) {
				wantFill(t, a, nil, n, k)
				wantStarts(t, a, nil, n, k)
			}
		}
		if e := parse.Fill(a, 0, 0); e != api.OK {
			t.Errorf("Fill(0, 0): %v", e)
		}
	}
}

// P5.2

func TestFillOfEachRow(t *testing.T) {
	for words := range 20 {
		m := allJunk(words)
		for from := -2; from <= words+2; from++ {
			for to := -2; to <= words+2; to++ {
				wantFill(t, holding(t, m), m, from, to)
			}
		}
	}
}

func TestFillOfFarNumbers(t *testing.T) {
	m := allJunk(4)
	a := holding(t, m)
	for _, n := range far {
		for _, k := range around(4) {
			wantFill(t, a, m, n, k)
			wantFill(t, a, m, k, n)
		}
	}
}

// Rows about MaxSize words, and about so many times as many, in arenas that they fill, and in greater ones.
func TestFillOfGreatRows(t *testing.T) {
	for times := 1; times <= 3; times++ {
		for by := -2; by <= 2; by++ {
			n := times*maxSize + by
			m := allJunk(n + 2)
			wantFill(t, holding(t, m), m, 0, n)
			wantFill(t, holding(t, m), m, 1, n+1)
			wantFill(t, holding(t, m), m, 2, n+2)
			wantFill(t, holding(t, m), m, 3, n+3)
		}
	}
}

// The fillers of great rows, told without the model.
func TestFillersOfGreatRows(t *testing.T) {
	for n, want := range map[int][]int{
		0: {}, 1: {1}, maxSize - 1: {maxSize - 1}, maxSize: {maxSize}, maxSize + 1: {maxSize, 1},
		2*maxSize - 1: {maxSize, maxSize - 1}, 2 * maxSize: {maxSize, maxSize}, 2*maxSize + 1: {maxSize, maxSize, 1},
		4 * maxSize: {maxSize, maxSize, maxSize, maxSize},
	} {
		a, _ := arena.New(n)
		if e := parse.Fill(a, 0, n); e != api.OK {
			t.Fatalf("Fill(0, %d): %v", n, e)
		}
		at := 0
		for _, size := range want {
			if h, e := parse.At(a, at); h != (api.Header{Kind: api.HeadFiller, Size: size}) || e != api.OK {
				t.Fatalf("Fill(0, %d): At(%d): %+v, %v, not Size %d", n, at, h, e, size)
			}
			at += size
		}
		if s, e := parse.Starts(a, 0, n); len(s) != len(want) || e != api.OK {
			t.Fatalf("Fill(0, %d): Starts: %v, %v", n, s, e)
		}
	}
}

// What lies in a filler isn't looked at, nor changed: headers either.
func TestFillOverObjects(t *testing.T) {
	m := []uint64{object(2, 1, 7), 1, filler(3), 9, 9, object(1, 0, 0), forward(2, 0), 4}
	for from := range m {
		for to := from; to <= len(m); to++ {
			wantFill(t, holding(t, m), m, from, to)
		}
	}
}

// P5.3

// alphabet are words of all kinds that matter in an arena of few words, and some that are none.
var alphabet = []uint64{
	0, object(1, 0, 0), object(2, 0, 7), object(2, 1, 0), object(3, 2, 3), object(4, 1, 0), object(5, 0, 0),
	filler(1), filler(2), filler(4), filler(maxSize), forward(1, 0), forward(2, 3), junk, object(2, 2, 0), filler(0),
}

// All arenas of up to four words of the alphabet: each address, and each row.
func TestEachSmallArena(t *testing.T) {
	count := 1
	for words := range 5 {
		for number := range count {
			m := make([]uint64, words)
			for at := range m {
				m[at] = alphabet[number%len(alphabet)]
				number /= len(alphabet)
			}
			wantRead(t, m)
		}
		count *= len(alphabet)
	}
}

// Each right word with one bit turned: at the first word, in the midst, and at the last.
func TestTurnedBits(t *testing.T) {
	for _, w := range []uint64{0, object(1, 0, 0), object(3, 2, 5), filler(2), filler(maxSize), forward(3, 100)} {
		for bit := range 64 {
			turned := w ^ 1<<bit
			wantRead(t, []uint64{turned, 0, 0, filler(1)})
			wantRead(t, []uint64{filler(1), turned, 0, 0})
			wantRead(t, []uint64{filler(2), 0, filler(1), turned})
		}
	}
}

// At asks for no word but its own: what its header says of others may be wrong.
func TestAtOfEachKind(t *testing.T) {
	for w, want := range map[uint64]api.Header{
		object(1, 0, 0):                    {Kind: api.HeadObject, Size: 1},
		object(3, 2, 0):                    {Kind: api.HeadObject, Size: 3, Ptrs: 2},
		object(maxSize, maxSize-1, 7):      {Kind: api.HeadObject, Size: maxSize, Ptrs: maxSize - 1, Age: 7},
		filler(1):                          {Kind: api.HeadFiller, Size: 1},
		filler(maxSize):                    {Kind: api.HeadFiller, Size: maxSize},
		forward(1, 0):                      {Kind: api.HeadForward, Size: 1},
		forward(maxSize, api.MaxWords-1):   {Kind: api.HeadForward, Size: maxSize, To: api.MaxWords - 1},
		forward(7, 100) - forward(7, 0):    {},
		0:                                  {},
		4:                                  {},
		junk:                               {},
		math.MaxUint64:                     {},
		object(3, 3, 0):                    {},
		object(3, 2, 8):                    {},
		object(maxSize+1, 0, 0):            {},
		filler(maxSize + 1):                {},
		filler(1) + 1<<23:                  {},
		forward(maxSize+1, 0):              {},
		forward(1, api.MaxWords-1) + 1<<45: {},
	} {
		e := api.OK
		if want.Kind == api.HeadNone {
			e = api.ErrBroken
		}
		a := holding(t, []uint64{w, junk, w})
		for _, at := range []int{0, 2} {
			if h, got := parse.At(a, at); h != want || got != e {
				t.Errorf("At(%d) of %#x: %+v, %v, not %+v, %v", at, w, h, got, want, e)
			}
		}
	}
}

func TestWordsThatAreNotThere(t *testing.T) {
	for _, words := range []int{0, 1, 2, 64, 100} {
		m := make([]uint64, words)
		for at := range m {
			m[at] = object(1, 0, 0)
		}
		a := holding(t, m)
		for _, at := range append([]int{words, words + 1, words + 64}, far...) {
			if h, e := parse.At(a, at); h != (api.Header{}) || e != api.ErrRange {
				t.Errorf("%d words: At(%d): %+v, %v", words, at, h, e)
			}
			if f, e := parse.Fields(a, at); len(f) != 0 || e != api.ErrRange {
				t.Errorf("%d words: Fields(%d): %v, %v", words, at, f, e)
			}
		}
		for at := range m {
			wantAt(t, a, m, at)
			wantFields(t, a, m, at)
		}
	}
}

// Objects of each size and all their Ptrs, to the last word, and one word behind it.
func TestFieldsOfEachObject(t *testing.T) {
	for size := 1; size <= 40; size++ {
		for ptrs := range size {
			for before := range 3 {
				m := allJunk(before + size)
				m[before] = object(size, ptrs, ptrs%8)
				wantFields(t, holding(t, m), m, before)
				m[before] = object(size+1, ptrs, ptrs%8)
				a := holding(t, m)
				wantAt(t, a, m, before)
				wantFields(t, a, m, before)
				if _, e := parse.Fields(a, before); e != api.ErrBroken {
					t.Fatalf("an object of %d words in %d: %v", size+1, size, e)
				}
			}
		}
	}
}

func TestFieldsOfTheGreatestObject(t *testing.T) {
	m := make([]uint64, maxSize+2)
	for _, ptrs := range []int{0, 1, maxSize - 2, maxSize - 1} {
		for at := range 4 {
			m[at] = object(maxSize, ptrs, 7)
			wantFields(t, holding(t, m), m, at)
			m[at] = 0
		}
	}
}

// What has Ptrs in its bits, but is no object, has no fields.
func TestFieldsOfOthers(t *testing.T) {
	for _, w := range []uint64{0, filler(1), filler(3), forward(1, 0), forward(3, 2), forward(3, 0), junk, object(3, 3, 0)} {
		a := holding(t, []uint64{w, 0, 0, 0})
		if f, e := parse.Fields(a, 0); len(f) != 0 || e != api.ErrBroken {
			t.Errorf("Fields(0) of %#x: %v, %v", w, f, e)
		}
	}
}

// P5.4

// A row may end with each of its objects, and nowhere between; and may begin with each of them.
func TestStartsOfEachPartOfARow(t *testing.T) {
	m := allJunk(30)
	for at, w := range map[int]uint64{
		2: object(1, 0, 0), 3: object(5, 2, 1), 8: filler(1), 9: filler(4), 13: object(1, 0, 7), 14: object(3, 0, 0), 17: filler(6), 23: object(7, 6, 0),
	} {
		m[at] = w
	}
	headers := []int{2, 3, 8, 9, 13, 14, 17, 23, 30}
	a := holding(t, m)
	for from := range 31 {
		for to := from; to <= 30; to++ {
			first, begins := slices.BinarySearch(headers, from)
			last, ends := slices.BinarySearch(headers, to)
			switch {
			case from == to:
				wantStarts(t, a, m, from, to)
			case !begins || !ends:
				wantNoStarts(t, a, from, to, api.ErrBroken)
			default:
				if s, e := parse.Starts(a, from, to); !slices.Equal(s, headers[first:last]) || e != api.OK {
					t.Fatalf("Starts(%d, %d): %v, %v, not %v", from, to, s, e, headers[first:last])
				}
			}
			wantStarts(t, a, m, from, to)
		}
	}
}

// A row of none is one wherever it is, whatever stands there, and there alone where words are.
func TestStartsOfNone(t *testing.T) {
	m := []uint64{0, junk, forward(1, 0), object(9, 0, 0)}
	a := holding(t, m)
	for at := range 5 {
		if s, e := parse.Starts(a, at, at); len(s) != 0 || e != api.OK {
			t.Errorf("Starts(%d, %d): %v, %v", at, at, s, e)
		}
	}
	for _, at := range append([]int{5, 6}, far...) {
		wantNoStarts(t, a, at, at, api.ErrRange)
	}
}

func TestStartsOfFarNumbers(t *testing.T) {
	m := []uint64{object(1, 0, 0), filler(1), object(2, 1, 0), 0}
	a := holding(t, m)
	for _, n := range far {
		for _, k := range around(4) {
			wantNoStarts(t, a, n, k, api.ErrRange)
			wantNoStarts(t, a, k, n, api.ErrRange)
		}
	}
}

// ErrRange is told ahead of words that are no row.
func TestStartsAnswersTheRangeFirst(t *testing.T) {
	a := holding(t, allJunk(4))
	for _, r := range [][2]int{{-1, 0}, {-1, 4}, {0, 5}, {4, 5}, {3, 2}, {4, 0}, {5, 5}, {0, -1}, {0, math.MaxInt}} {
		wantNoStarts(t, a, r[0], r[1], api.ErrRange)
	}
	wantNoStarts(t, a, 0, 4, api.ErrBroken)
}

// Words that may not stand in a row, as its first, in its midst, and as its last.
func TestStartsOfWordsThatMayNotBe(t *testing.T) {
	for _, w := range []uint64{0, 4, junk, math.MaxUint64, forward(1, 0), forward(1, 5), object(1, 1, 0), filler(0), filler(1) + 1<<60, object(1, 0, 8)} {
		for at := range 5 {
			m := []uint64{object(1, 0, 0), filler(1), object(1, 0, 3), filler(1), object(1, 0, 0)}
			m[at] = w
			a := holding(t, m)
			wantNoStarts(t, a, 0, 5, api.ErrBroken)
			wantNoStarts(t, a, at, at+1, api.ErrBroken)
			for from := range 6 {
				for to := from; to <= 5; to++ {
					wantStarts(t, a, m, from, to)
				}
			}
		}
	}
}

// A last object that says more words than the row has, or than there are.
func TestStartsOfTooLongAnObject(t *testing.T) {
	for _, last := range []func(int) uint64{filler, func(size int) uint64 { return object(size, 0, 0) }} {
		for _, size := range []int{4, 5, 6, 7, 100, maxSize - 1, maxSize} {
			m := []uint64{filler(1), object(2, 1, 0), 0, last(size), 0, 0, filler(1), filler(1)}
			a := holding(t, m)
			for to := 4; to <= 8; to++ {
				wantStarts(t, a, m, 0, to)
				wantStarts(t, a, m, 3, to)
				if to-3 < size {
					wantNoStarts(t, a, 0, to, api.ErrBroken)
				}
			}
		}
	}
}

func TestStartsOfGreatRows(t *testing.T) {
	const words = 2*maxSize + 3
	m := allJunk(words)
	m[0], m[1], m[1+maxSize], m[1+2*maxSize], m[2+2*maxSize] = filler(1), object(maxSize, 7, 0), filler(maxSize), object(1, 0, 0), filler(1)
	a := holding(t, m)
	for _, to := range []int{0, 1, 2, maxSize, maxSize + 1, maxSize + 2, 2 * maxSize, 2*maxSize + 1, 2*maxSize + 2, words, words + 1} {
		for _, from := range []int{0, 1, 2, maxSize, maxSize + 1, 2*maxSize + 1, words, words + 1} {
			wantStarts(t, a, m, from, to)
		}
	}
}

// As many objects as there can be.
func TestStartsOfTheMostObjects(t *testing.T) {
	m := make([]uint64, api.MaxWords)
	for at := range m {
		m[at] = object(1, 0, at%8)
		if at%3 == 0 {
			m[at] = filler(1)
		}
	}
	a := holding(t, m)
	wantStarts(t, a, m, 0, api.MaxWords)
	wantStarts(t, a, m, 1, api.MaxWords-1)
	wantStarts(t, a, m, 0, api.MaxWords+1)
}

// P5.5

// thing is an object that was made, or a row that was filled, and what it must be found as.
type thing struct {
	at     int
	header api.Header
}

// numbers gives numbers from all over by a rule that is always the same.
type numbers uint64

func (n *numbers) below(bound int) int {
	*n = *n*6364136223846793005 + 1442695040888963407
	return int(uint64(*n) >> 33 % uint64(bound))
}

// plan lays objects and fillers one behind the other from an address to another.
func plan(n *numbers, from, to, most int) []thing {
	var all []thing
	for from < to {
		h := api.Header{Kind: api.HeadFiller, Size: 1 + n.below(min(most, to-from))}
		if n.below(3) > 0 {
			h.Kind, h.Ptrs = api.HeadObject, n.below(h.Size)
		}
		all = append(all, thing{from, h})
		from += h.Size
	}
	return all
}

// build makes and fills what is planned, in the order in which it is told.
func build(t *testing.T, a *arena.Arena, all []thing) {
	t.Helper()
	for _, g := range all {
		e := parse.Fill
		if g.header.Kind == api.HeadObject {
			e = func(a *arena.Arena, from, to int) api.Errno { return parse.Make(a, from, to-from, g.header.Ptrs) }
		}
		if e := e(a, g.at, g.at+g.header.Size); e != api.OK {
			t.Fatalf("%+v: %v", g, e)
		}
	}
}

// wantBuilt goes through a row, and holds it against what was planned.
func wantBuilt(t *testing.T, a *arena.Arena, from, to int, all []thing) {
	t.Helper()
	s, e := parse.Starts(a, from, to)
	if len(s) != len(all) || e != api.OK {
		t.Fatalf("Starts(%d, %d): %v, %v, not %v", from, to, short(s), e, short(all))
	}
	for i, g := range all {
		if h, e := parse.At(a, s[i]); s[i] != g.at || h != g.header || e != api.OK {
			t.Fatalf("At(%d): %+v, %v, not %+v", s[i], h, e, g)
		}
		f, e := parse.Fields(a, s[i])
		if g.header.Kind == api.HeadFiller {
			if len(f) != 0 || e != api.ErrBroken {
				t.Fatalf("Fields(%d) of a filler: %v, %v", s[i], f, e)
			}
			continue
		}
		if len(f) != g.header.Ptrs || e != api.OK {
			t.Fatalf("Fields(%d): %v, %v, not %+v", s[i], short(f), e, g)
		}
		for j, at := range f {
			if at != g.at+1+j {
				t.Fatalf("Fields(%d): %v", s[i], short(f))
			}
		}
	}
}

func TestWhatWasMadeIsGoneThrough(t *testing.T) {
	var n numbers = 1
	for words := range 150 {
		for _, most := range []int{1, 2, 5, 64, maxSize} {
			from := n.below(words + 1)
			to := from + n.below(words-from+1)
			m := allJunk(words)
			a, all := holding(t, m), plan(&n, from, to, most)
			build(t, a, all)
			wantBuilt(t, a, from, to, all)
			// In the other order, and over what was there ahead, it is the same.
			slices.Reverse(all)
			build(t, a, all)
			slices.Reverse(all)
			wantBuilt(t, a, from, to, all)
			for at := range m {
				if w, _ := a.Load(at); (at < from || at >= to) && w != m[at] {
					t.Fatalf("%d words, from %d to %d: the word %d is %#x, not %#x", words, from, to, at, w, m[at])
				}
			}
		}
	}
}

func TestGreatRowsAreGoneThrough(t *testing.T) {
	for _, most := range []int{1000, 65536, maxSize} {
		n := numbers(most)
		a, _ := arena.New(api.MaxWords)
		all := plan(&n, 0, api.MaxWords, most)
		build(t, a, all)
		wantBuilt(t, a, 0, api.MaxWords, all)
	}
}

// What is stored behind a header, references and data, even words that look like headers, changes no row.
func TestWhatIsStoredChangesNoRow(t *testing.T) {
	var n numbers = 7
	for _, w := range alphabet {
		a := holding(t, allJunk(200))
		all := plan(&n, 0, 200, 9)
		build(t, a, all)
		for _, g := range all {
			for at := g.at + 1; at < g.at+g.header.Size; at++ {
				a.Store(at, w)
			}
		}
		wantBuilt(t, a, 0, 200, all)
	}
}

// All layers

// Lists share no memory with one another, nor is one kept: what is done to one changes no other one.
func TestListsAreNewMemory(t *testing.T) {
	a := holding(t, []uint64{object(5, 4, 0), 0, 0, 0, 0, filler(2), 0, object(1, 0, 0)})
	for want, list := range map[[4]int]func() ([]int, api.Errno){
		{1, 2, 3, 4}: func() ([]int, api.Errno) { return parse.Fields(a, 0) },
		{0, 5, 7, 0}: func() ([]int, api.Errno) { return parse.Starts(a, 0, 8) },
	} {
		first, _ := list()
		second, _ := list()
		length := len(first)
		// The spare room, too.
		first = first[:cap(first)]
		for i := range first {
			first[i] = -1
		}
		third, _ := list()
		for _, l := range [][]int{second, third} {
			if !slices.Equal(l, want[:length]) {
				t.Errorf("%v, not %v", l, want[:length])
			}
		}
	}
}

// Each step of the layers behind looks at one word at most: a call looks at headers alone, once each.
func TestAccesses(t *testing.T) {
	a, _ := arena.New(2*maxSize + 20)
	seen := 0
	want := func(what string, n int) {
		t.Helper()
		if got := a.Accesses() - seen; got != n {
			t.Errorf("%s: %d accesses, not %d", what, got, n)
		}
		seen = a.Accesses()
	}
	parse.Make(a, 0, 10, 9)
	want("Make", 1)
	parse.At(a, 0)
	want("At", 1)
	parse.Fields(a, 0)
	want("Fields", 1)
	parse.Fill(a, 10, 20+2*maxSize)
	want("Fill", 3)
	parse.Starts(a, 0, 20+2*maxSize)
	want("Starts", 4)
	parse.Fill(a, 5, 5)
	parse.Starts(a, 5, 5)
	want("rows of none", 0)
	parse.Make(a, -1, 1, 0)
	parse.Make(a, 0, 1, 1)
	parse.Fill(a, 3, 2)
	parse.At(a, -1)
	parse.Fields(a, -1)
	parse.Starts(a, 3, 2)
	want("what is refused", 0)
}

// The chapter's examples, in their order.
func TestExamples(t *testing.T) {
	a, _ := arena.New(20)
	if e := parse.Make(a, 0, 3, 2); e != api.OK {
		t.Error("Make(0, 3, 2)", e)
	}
	if e := parse.Fill(a, 3, 10); e != api.OK {
		t.Error("Fill(3, 10)", e)
	}
	if s, e := parse.Starts(a, 0, 10); !slices.Equal(s, []int{0, 3}) || e != api.OK {
		t.Error("Starts(0, 10)", s, e)
	}
	if f, e := parse.Fields(a, 0); !slices.Equal(f, []int{1, 2}) || e != api.OK {
		t.Error("Fields(0)", f, e)
	}
	if h, e := parse.At(a, 3); h != (api.Header{Kind: api.HeadFiller, Size: 7}) || e != api.OK {
		t.Error("At(3)", h, e)
	}
	wantNoStarts(t, a, 0, 9, api.ErrBroken)
	if s, e := parse.Starts(a, 0, 0); len(s) != 0 || e != api.OK {
		t.Error("Starts(0, 0)", s, e)
	}
	if e := parse.Make(a, 18, 3, 0); e != api.ErrRange {
		t.Error("Make(18, 3, 0)", e)
	}
	if e := parse.Make(a, 0, 3, 3); e != api.ErrShape {
		t.Error("Make(0, 3, 3)", e)
	}
	if h, e := parse.At(a, 10); h != (api.Header{}) || e != api.ErrBroken {
		t.Error("At(10)", h, e)
	}
	if h, e := parse.At(a, 20); h != (api.Header{}) || e != api.ErrRange {
		t.Error("At(20)", h, e)
	}
	if f, e := parse.Fields(a, 3); len(f) != 0 || e != api.ErrBroken {
		t.Error("Fields(3)", f, e)
	}
}
