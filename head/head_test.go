package head_test

import (
	"math"
	"testing"

	"gleaner/api"
	"gleaner/head"
)

// The chapter's bounds, written out, so that the tests don't lean on what the package leans on.
const (
	maxSize = 1048576
	maxTo   = 4194303
	maxAge  = 7
)

func object(size, ptrs, age int) api.Header {
	return api.Header{Kind: api.HeadObject, Size: size, Ptrs: ptrs, Age: age}
}

func filler(size int) api.Header {
	return api.Header{Kind: api.HeadFiller, Size: size}
}

func forward(size, to int) api.Header {
	return api.Header{Kind: api.HeadForward, Size: size, To: to}
}

// wordOf is a right header's word by the chapter's sums, without shifts, and whether it is right.
func wordOf(h api.Header) (uint64, bool) {
	sized := h.Size >= 1 && h.Size <= maxSize
	switch h.Kind {
	case 0:
		return 0, h.Size == 0 && h.Ptrs == 0 && h.Age == 0 && h.To == 0
	case 1:
		right := sized && h.Ptrs >= 0 && h.Ptrs < h.Size && h.Age >= 0 && h.Age <= maxAge && h.To == 0
		return 1 + uint64(h.Size)*4 + uint64(h.Ptrs)*8388608 + uint64(h.Age)*17592186044416, right
	case 2:
		return 2 + uint64(h.Size)*4, sized && h.Ptrs == 0 && h.Age == 0 && h.To == 0
	case 3:
		right := sized && h.To >= 0 && h.To <= maxTo && h.Ptrs == 0 && h.Age == 0
		return 3 + uint64(h.Size)*4 + uint64(h.To)*8388608, right
	}
	return 0, false
}

// headerOf is a word's header by division, part by part, and whether it has one.
func headerOf(w uint64) (api.Header, bool) {
	kind, rest := w%4, w/4
	size, rest := int(rest%2097152), rest/2097152
	sized := size >= 1 && size <= maxSize
	switch kind {
	case 0:
		return api.Header{}, w == 0
	case 1:
		ptrs, rest := int(rest%2097152), rest/2097152
		return object(size, ptrs, int(rest%8)), sized && ptrs < size && rest < 8
	case 2:
		return filler(size), sized && rest == 0
	}
	return forward(size, int(rest%4194304)), sized && rest < 4194304
}

func wantPacked(t *testing.T, h api.Header, want uint64) {
	if w, e := head.Pack(h); w != want || e != api.OK {
		t.Fatalf("Pack(%+v): %d, %v, not %d", h, w, e, want)
	}
}

func wantUnpacked(t *testing.T, w uint64, want api.Header) {
	if h, e := head.Unpack(w); h != want || e != api.OK {
		t.Fatalf("Unpack(%#x): %+v, %v, not %+v", w, h, e, want)
	}
}

func wantNoWord(t *testing.T, h api.Header) {
	if w, e := head.Pack(h); w != 0 || e != api.ErrShape {
		t.Fatalf("Pack(%+v): %d, %v", h, w, e)
	}
}

func wantNoHeader(t *testing.T, w uint64) {
	if h, e := head.Unpack(w); h != (api.Header{}) || e != api.ErrBroken {
		t.Fatalf("Unpack(%#x): %+v, %v", w, h, e)
	}
}

// wantThereAndBack asks for a right header's word, and for that word's header.
func wantThereAndBack(t *testing.T, h api.Header) {
	w, right := wordOf(h)
	if !right {
		t.Fatalf("%+v isn't right", h)
	}
	wantPacked(t, h, w)
	wantUnpacked(t, w, h)
}

// wantAnswer asks for the word of a header that may be right or not.
func wantAnswer(t *testing.T, h api.Header) {
	if _, right := wordOf(h); right {
		wantThereAndBack(t, h)
	} else {
		wantNoWord(t, h)
	}
}

// wantRead asks for the header of a word that may have one or not, and for that header's word.
func wantRead(t *testing.T, w uint64) {
	if h, right := headerOf(w); right {
		wantUnpacked(t, w, h)
		wantPacked(t, h, w)
	} else {
		wantNoHeader(t, w)
	}
}

// sizes are the least and the greatest, and some around powers of two.
var sizes = []int{1, 2, 3, 4, 7, 8, 63, 64, 65, 1000, 1<<19 - 1, 1 << 19, 1<<19 + 1, maxSize - 2, maxSize - 1, maxSize}

var addresses = []int{0, 1, 2, 63, 100, 1 << 20, 1<<21 - 1, 1 << 21, 1<<21 + 1, maxTo - 1, maxTo}

// rights are right headers of each kind, each number at its bounds and between them.
func rights() []api.Header {
	all := []api.Header{{}}
	for _, size := range sizes {
		all = append(all, filler(size))
		for _, ptrs := range []int{0, 1, 2, size / 2, size - 2, size - 1} {
			if ptrs < 0 || ptrs >= size {
				continue
			}
			for age := range maxAge + 1 {
				all = append(all, object(size, ptrs, age))
			}
		}
		for _, to := range addresses {
			all = append(all, forward(size, to))
		}
	}
	return all
}

// P4.1, and there and back, P4.2

// The chapter's table.
func TestTable(t *testing.T) {
	wantPacked(t, object(3, 2, 1), 17592202821645)
	wantUnpacked(t, 17592202821645, object(3, 2, 1))
	wantPacked(t, filler(1), 6)
	wantUnpacked(t, 6, filler(1))
	wantPacked(t, forward(3, 100), 838860815)
	wantUnpacked(t, 838860815, forward(3, 100))
	wantPacked(t, api.Header{}, 0)
	wantUnpacked(t, 0, api.Header{})
	wantNoWord(t, object(3, 3, 0))
	wantNoWord(t, filler(0))
	wantNoWord(t, api.Header{Kind: api.HeadFiller, Size: 1, Ptrs: 1})
	wantNoHeader(t, 4)
	wantNoHeader(t, 2)
	wantNoHeader(t, 1<<60+6)
}

// Words that are written out by hand, the least and the greatest of each kind.
func TestLeastAndGreatest(t *testing.T) {
	for w, h := range map[uint64]api.Header{
		0x5:            object(1, 0, 0),
		0x700000000005: object(1, 0, 7),
		0x400001:       object(maxSize, 0, 0),
		0x77ffffc00001: object(maxSize, maxSize-1, 7),
		0x6:            filler(1),
		0x400002:       filler(maxSize),
		0x7:            forward(1, 0),
		0x400003:       forward(maxSize, 0),
		0x1fffff800007: forward(1, maxTo),
		0x1fffffc00003: forward(maxSize, maxTo),
	} {
		wantPacked(t, h, w)
		wantUnpacked(t, w, h)
	}
}

func TestRightHeaders(t *testing.T) {
	for _, h := range rights() {
		wantThereAndBack(t, h)
	}
}

func TestEachSize(t *testing.T) {
	for size := 1; size <= maxSize; size++ {
		wantThereAndBack(t, filler(size))
		wantThereAndBack(t, forward(size, maxTo-size))
		wantThereAndBack(t, object(size, size-1, size&maxAge))
		wantNoWord(t, object(size, size, 0))
	}
}

func TestEachPtrs(t *testing.T) {
	for ptrs := range maxSize {
		wantThereAndBack(t, object(maxSize, ptrs, ptrs&maxAge))
	}
}

func TestEachTo(t *testing.T) {
	for to := range maxTo + 1 {
		wantThereAndBack(t, forward(1+to&(maxSize-1), to))
	}
}

// Two right headers never have one word.
func TestWordsDiffer(t *testing.T) {
	of := map[uint64]api.Header{}
	for _, h := range rights() {
		w, _ := head.Pack(h)
		if other, there := of[w]; there && other != h {
			t.Fatalf("%+v and %+v have the word %#x", h, other, w)
		}
		of[w] = h
	}
}

// What isn't right

func TestSizeAtItsBounds(t *testing.T) {
	for _, kind := range []api.HeadKind{api.HeadObject, api.HeadFiller, api.HeadForward} {
		for _, size := range []int{1, maxSize} {
			wantThereAndBack(t, api.Header{Kind: kind, Size: size})
		}
		for _, size := range []int{0, -1, maxSize + 1, 2*maxSize - 1, 2 * maxSize, math.MinInt, math.MaxInt} {
			wantNoWord(t, api.Header{Kind: kind, Size: size})
		}
	}
}

func TestPtrsAtTheirBounds(t *testing.T) {
	for _, size := range sizes {
		wantThereAndBack(t, object(size, 0, 0))
		wantThereAndBack(t, object(size, size-1, 0))
		for _, ptrs := range []int{-1, size, size + 1, math.MinInt, math.MaxInt} {
			wantNoWord(t, object(size, ptrs, 0))
		}
	}
}

// Where Size is wrong, no Ptrs are right, not even those that would be below it.
func TestPtrsOfNoSize(t *testing.T) {
	for _, size := range []int{0, -1, maxSize + 1, math.MinInt, math.MinInt + 1, math.MaxInt} {
		for _, ptrs := range []int{math.MinInt, -2, -1, 0, 1, maxSize - 1, maxSize, math.MaxInt - 1, math.MaxInt} {
			wantNoWord(t, object(size, ptrs, 0))
		}
	}
}

func TestAgeAtItsBounds(t *testing.T) {
	wantThereAndBack(t, object(3, 2, 0))
	wantThereAndBack(t, object(3, 2, 7))
	for _, age := range []int{-1, 8, 9, 15, 16, math.MinInt, math.MaxInt} {
		wantNoWord(t, object(3, 2, age))
	}
}

func TestToAtItsBounds(t *testing.T) {
	wantThereAndBack(t, forward(3, 0))
	wantThereAndBack(t, forward(3, api.MaxWords-1))
	for _, to := range []int{-1, api.MaxWords, api.MaxWords + 1, 2*api.MaxWords - 1, math.MinInt, math.MaxInt} {
		wantNoWord(t, forward(3, to))
	}
}

// parts are a header's four numbers, to be changed one by one.
func parts(h *api.Header) []*int {
	return []*int{&h.Size, &h.Ptrs, &h.Age, &h.To}
}

// Each number that must be 0 for its kind is 1, -1, or what would be right for another kind.
func TestNumbersThatMustBeNought(t *testing.T) {
	for kind, must := range map[api.HeadKind][]int{
		api.HeadNone: {0, 1, 2, 3}, api.HeadObject: {3}, api.HeadFiller: {1, 2, 3}, api.HeadForward: {1, 2},
	} {
		for _, i := range must {
			for _, n := range []int{1, -1, 2, 7, 8, maxSize, maxTo, math.MinInt, math.MaxInt} {
				h := api.Header{Kind: kind}
				if kind != api.HeadNone {
					h.Size = 3
				}
				*parts(&h)[i] = n
				wantNoWord(t, h)
			}
		}
	}
}

// Two numbers that must be 0, and would make 0 together.
func TestNumbersThatCancelOut(t *testing.T) {
	wantNoWord(t, api.Header{Ptrs: 1, To: -1})
	wantNoWord(t, api.Header{Size: -2, Age: 2})
	wantNoWord(t, api.Header{Kind: api.HeadFiller, Size: 3, Ptrs: -1, To: 1})
	wantNoWord(t, api.Header{Kind: api.HeadForward, Size: 3, Ptrs: 1, Age: -1})
	wantNoWord(t, api.Header{Kind: api.HeadForward, Size: 3, Ptrs: 1, To: -1})
}

func TestKindsThatAreNone(t *testing.T) {
	for _, kind := range []api.HeadKind{-1, -2, -3, -4, 4, 5, 6, 7, 8, 1 << 32, 1<<32 + 1, 1<<62 + 2, math.MinInt, math.MinInt + 1, math.MinInt + 3, math.MaxInt} {
		for _, h := range rights() {
			h.Kind = kind
			wantNoWord(t, h)
		}
	}
}

// Each right header with the kind of another one: most aren't right any more.
func TestKindsOfOthers(t *testing.T) {
	for _, h := range rights() {
		for kind := range api.HeadKind(4) {
			h.Kind = kind
			wantAnswer(t, h)
		}
	}
}

// lookalikes are what may be added to a number so that its lowest bits stay what they were: bits that a part has no room for, up to the sign.
func lookalikes() []int {
	all := []int{math.MinInt}
	for bit := 2; bit < 63; bit++ {
		all = append(all, 1<<bit, -1<<bit)
	}
	return all
}

// Numbers so great, or so far below 0, that their lowest bits look like those of a right header.
func TestNumbersThatLookRight(t *testing.T) {
	for _, right := range rights() {
		for i := range parts(&right) {
			for _, by := range lookalikes() {
				h := right
				*parts(&h)[i] += by
				wantAnswer(t, h)
			}
		}
	}
	for _, right := range []api.Header{{}, object(3, 2, 1), filler(1), forward(3, 100)} {
		for _, by := range lookalikes() {
			h := right
			h.Kind += api.HeadKind(by)
			wantNoWord(t, h)
		}
	}
}

// Each number from just below its bounds to just above them, in small headers of all kinds.
func TestSmallHeaders(t *testing.T) {
	for kind := api.HeadKind(-1); kind <= 4; kind++ {
		for size := -1; size <= 4; size++ {
			for ptrs := -1; ptrs <= 5; ptrs++ {
				for age := -1; age <= 8; age++ {
					for to := -1; to <= 2; to++ {
						wantAnswer(t, api.Header{Kind: kind, Size: size, Ptrs: ptrs, Age: age, To: to})
					}
				}
			}
		}
	}
}

// Words

// free are the lowest bits that must be 0 in each kind's word: no part has them, nor those above them.
var free = [4]int{2, 47, 23, 45}

func TestBitsThatMustBeNought(t *testing.T) {
	for _, h := range rights() {
		w, _ := wordOf(h)
		for bit := free[h.Kind]; bit < 64; bit++ {
			wantNoHeader(t, w|1<<bit)
			wantNoHeader(t, w|1<<63|1<<bit)
			wantNoHeader(t, w|math.MaxUint64<<bit)
		}
	}
}

// Each right word with each bit, and each two bits, turned.
func TestTurnedBits(t *testing.T) {
	for _, h := range rights() {
		w, _ := wordOf(h)
		for one := range 64 {
			for other := range one + 1 {
				wantRead(t, w^1<<one)
				wantRead(t, w^1<<one^1<<other)
			}
		}
	}
}

func TestWordsOfNoSize(t *testing.T) {
	for kind := range uint64(4) {
		for _, size := range []uint64{0, maxSize + 1, maxSize + 2, 2*maxSize - 2, 2*maxSize - 1} {
			if w := kind + size*4; w != 0 {
				wantNoHeader(t, w)
			}
			wantNoHeader(t, kind+size*4+1<<23)
		}
		if kind != 0 {
			wantRead(t, kind+4)
			wantRead(t, kind+maxSize*4)
		}
	}
}

func TestWordsWithTooManyPtrs(t *testing.T) {
	for _, size := range sizes {
		w := uint64(1 + size*4)
		wantUnpacked(t, w+uint64(size-1)<<23, object(size, size-1, 0))
		for _, ptrs := range []int{size, size + 1, maxSize, maxSize + 1, 2*maxSize - 1} {
			if ptrs >= size {
				wantNoHeader(t, w+uint64(ptrs)<<23)
				wantNoHeader(t, w+uint64(ptrs)<<23+7<<44)
			}
		}
	}
}

// The word 0 alone is none's.
func TestWordsOfNone(t *testing.T) {
	wantUnpacked(t, 0, api.Header{})
	for w := uint64(4); w < 1<<24; w += 4 {
		wantNoHeader(t, w)
	}
	for bit := 2; bit < 64; bit++ {
		wantNoHeader(t, 1<<bit)
		wantNoHeader(t, math.MaxUint64<<bit)
	}
}

// All words of few bits: most are no header's.
func TestSmallWords(t *testing.T) {
	for w := range uint64(1 << 16) {
		wantRead(t, w)
		wantRead(t, w<<16|w&3)
		wantRead(t, w<<32|w&3|4)
		wantRead(t, w<<48|w&3|4)
		wantRead(t, ^w)
	}
}

// Words from all over, and with fewer and fewer of their highest bits, by a rule that is always the same.
func TestWordsFromAllOver(t *testing.T) {
	w := uint64(1)
	for range 1 << 14 {
		w = w*6364136223846793005 + 1442695040888963407
		mixed := w ^ w>>29
		for shift := range 64 {
			wantRead(t, mixed>>shift)
		}
	}
}
