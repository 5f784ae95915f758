package bits_test

import (
	"math"
	"slices"
	"testing"

	"gleaner/api"
	"gleaner/bits"
)

// model is the plainest set: a truth value for each number.
type model []bool

func (m model) next(i int) int {
	for k := max(i, 0); k < len(m); k++ {
		if m[k] {
			return k
		}
	}
	return -1
}

func (m model) count(from, to int) int {
	total := 0
	for k := max(from, 0); k < min(to, len(m)); k++ {
		if m[k] {
			total++
		}
	}
	return total
}

func (m model) list() []int {
	var list []int
	for k, in := range m {
		if in {
			list = append(list, k)
		}
	}
	return list
}

func newSet(t *testing.T, n int, in ...int) *bits.Set {
	t.Helper()
	s, e := bits.New(n)
	if s == nil || e != api.OK {
		t.Fatalf("New(%d): %v, %v", n, s, e)
	}
	for _, i := range in {
		if changed, e := s.Put(i); !changed || e != api.OK {
			t.Fatalf("New(%d), Put(%d): %v, %v", n, i, changed, e)
		}
	}
	return s
}

func wantList(t *testing.T, s *bits.Set, want []int) {
	t.Helper()
	if got := s.List(); !slices.Equal(got, want) {
		t.Fatalf("List: %v, not %v", got, want)
	}
}

// wantModel asks for every answer about every number, and about some beyond.
func wantModel(t *testing.T, s *bits.Set, m model) {
	t.Helper()
	wantList(t, s, m.list())
	for i := -2; i < len(m)+2; i++ {
		if got, want := s.Has(i), i >= 0 && i < len(m) && m[i]; got != want {
			t.Fatalf("length %d: Has(%d): %v, not %v", len(m), i, got, want)
		}
		if got, want := s.Next(i), m.next(i); got != want {
			t.Fatalf("length %d: Next(%d): %d, not %d", len(m), i, got, want)
		}
	}
}

// edgeLengths lie around the ends of words.
var edgeLengths = []int{0, 1, 2, 63, 64, 65, 127, 128, 129, 130, 192, 200}

// far are numbers that no set has, at both ends of what an int can be.
var far = []int{math.MinInt, math.MinInt + 1, -65, -64, -63, -1, api.MaxWords, api.MaxWords + 1, math.MaxInt - 63, math.MaxInt - 1, math.MaxInt}

// P1.1

func TestNewMakesAnEmptySet(t *testing.T) {
	for _, n := range append([]int{api.MaxWords - 1, api.MaxWords}, edgeLengths...) {
		s := newSet(t, n)
		if s.Len() != n || s.Count(0, n) != 0 || s.Next(0) != -1 || len(s.List()) != 0 || s.Has(0) || s.Has(n-1) {
			t.Errorf("New(%d) is not an empty set of that length", n)
		}
	}
}

func TestNewRefusesLengths(t *testing.T) {
	for _, n := range []int{-1, api.MaxWords + 1, math.MinInt, math.MaxInt, math.MaxInt - 62} {
		if s, e := bits.New(n); s != nil || e != api.ErrRange {
			t.Errorf("New(%d): %v, %v", n, s, e)
		}
	}
}

func TestSetsAreApart(t *testing.T) {
	one, other := newSet(t, 70, 3, 69), newSet(t, 70, 4)
	wantList(t, one, []int{3, 69})
	wantList(t, other, []int{4})
}

func TestNilSet(t *testing.T) {
	var s *bits.Set
	if s.Len() != 0 || len(s.List()) != 0 {
		t.Error("a nil set has a length, or numbers")
	}
	for _, i := range append([]int{0, 1, 64}, far...) {
		if s.Has(i) || s.Next(i) != -1 || s.Count(0, i) != 0 || s.Count(i, 64) != 0 {
			t.Errorf("a nil set has %d, or a number beside it", i)
		}
		if changed, e := s.Put(i); changed || e != api.ErrNil {
			t.Errorf("Put(%d): %v, %v", i, changed, e)
		}
		if changed, e := s.Drop(i); changed || e != api.ErrNil {
			t.Errorf("Drop(%d): %v, %v", i, changed, e)
		}
		for _, on := range []bool{false, true} {
			if e := s.Fill(i, 0, on); e != api.ErrNil {
				t.Errorf("Fill(%d, 0, %v): %v", i, on, e)
			}
		}
	}
}

// P1.2

func TestPutAndDropEachNumber(t *testing.T) {
	for _, n := range edgeLengths {
		s, m := newSet(t, n), make(model, n)
		turn := func(i int, on bool) {
			ask := s.Drop
			if on {
				ask = s.Put
			}
			for _, want := range []bool{m[i] != on, false} {
				if changed, e := ask(i); changed != want || e != api.OK {
					t.Fatalf("length %d: %d, %v: %v, %v", n, i, on, changed, e)
				}
			}
			m[i] = on
			wantModel(t, s, m)
		}
		// A step of 67 comes by every number of these lengths in a mixed order.
		for i := range n {
			turn(i*67%n, true)
		}
		for i := range n {
			turn(i*67%n, false)
		}
	}
}

func TestPutAndDropRefuseNumbers(t *testing.T) {
	for _, n := range edgeLengths {
		s, m := newSet(t, n), make(model, n)
		if e := s.Fill(0, n, true); e != api.OK {
			t.Fatal(e)
		}
		for i := range m {
			m[i] = true
		}
		// Behind a length there may be bits to the end of a word: they are no numbers.
		for _, i := range append([]int{n, n + 1, (n | 63) + 1}, far...) {
			if changed, e := s.Put(i); changed || e != api.ErrRange {
				t.Errorf("length %d: Put(%d): %v, %v", n, i, changed, e)
			}
			if changed, e := s.Drop(i); changed || e != api.ErrRange {
				t.Errorf("length %d: Drop(%d): %v, %v", n, i, changed, e)
			}
			if s.Has(i) {
				t.Errorf("length %d: Has(%d)", n, i)
			}
		}
		wantModel(t, s, m)
	}
}

func TestGreatestLength(t *testing.T) {
	last := api.MaxWords - 1
	s := newSet(t, api.MaxWords, last, 0)
	wantList(t, s, []int{0, last})
	if !s.Has(last) || s.Next(1) != last || s.Count(0, api.MaxWords) != 2 {
		t.Error("the last number is not there")
	}
	if changed, e := s.Put(api.MaxWords); changed || e != api.ErrRange {
		t.Error(changed, e)
	}
	if e := s.Fill(0, api.MaxWords, true); e != api.OK || s.Count(math.MinInt, math.MaxInt) != api.MaxWords {
		t.Error(e, s.Count(math.MinInt, math.MaxInt))
	}
	if changed, e := s.Drop(last); !changed || e != api.OK || s.Next(last) != -1 || s.Next(last-1) != last-1 {
		t.Error(changed, e)
	}
}

// P1.3

func TestNextOfAnyNumber(t *testing.T) {
	s := newSet(t, 200, 5, 63, 64, 190)
	for _, r := range []struct{ i, want int }{
		{math.MinInt, 5}, {-1, 5}, {0, 5}, {5, 5}, {6, 63}, {63, 63}, {64, 64}, {65, 190}, {128, 190},
		{190, 190}, {191, -1}, {199, -1}, {200, -1}, {255, -1}, {256, -1}, {math.MaxInt, -1},
	} {
		if got := s.Next(r.i); got != r.want {
			t.Errorf("Next(%d): %d, not %d", r.i, got, r.want)
		}
	}
}

func TestCountOfAnyTwo(t *testing.T) {
	for _, n := range edgeLengths {
		s, m := newSet(t, n), make(model, n)
		for i := 0; i < n; i += 1 + i%3 {
			if _, e := s.Put(i); e != api.OK {
				t.Fatal(e)
			}
			m[i] = true
		}
		bounds := append([]int{n, n + 1, n + 64}, far...)
		for i := range n {
			bounds = append(bounds, i)
		}
		for _, from := range bounds {
			for _, to := range bounds {
				if got, want := s.Count(from, to), m.count(from, to); got != want {
					t.Fatalf("length %d: Count(%d, %d): %d, not %d", n, from, to, got, want)
				}
			}
		}
		wantModel(t, s, m)
	}
}

func TestListIsNewMemory(t *testing.T) {
	s := newSet(t, 100, 1, 99)
	list := s.List()
	_ = append(list[:0], 7, 8)
	wantList(t, s, []int{1, 99})
	if _, e := s.Put(50); e != api.OK || list[0] != 7 || list[1] != 8 {
		t.Error(e, list)
	}
	wantList(t, s, []int{1, 50, 99})
}

// P1.4

func TestFillOfAllBounds(t *testing.T) {
	for _, n := range edgeLengths {
		for from := 0; from <= n; from++ {
			for to := from; to <= n; to++ {
				wantFilled(t, n, from, to, true)
				wantFilled(t, n, from, to, false)
			}
		}
	}
}

// wantFilled fills where each third number is otherwise already: those without must stay as they were.
func wantFilled(t *testing.T, n, from, to int, on bool) {
	t.Helper()
	s, m := newSet(t, n), make(model, n)
	for i := range m {
		m[i] = (i%3 == 0) == on
		if m[i] {
			if _, e := s.Put(i); e != api.OK {
				t.Fatal(e)
			}
		}
	}
	if e := s.Fill(from, to, on); e != api.OK {
		t.Fatalf("length %d: Fill(%d, %d, %v): %v", n, from, to, on, e)
	}
	for i := from; i < to; i++ {
		m[i] = on
	}
	if got := s.List(); !slices.Equal(got, m.list()) {
		t.Fatalf("length %d: Fill(%d, %d, %v): %v, not %v", n, from, to, on, got, m.list())
	}
}

func TestFillRefusesBounds(t *testing.T) {
	for _, n := range edgeLengths {
		half := n / 2
		s := newSet(t, n)
		if e := s.Fill(0, half, true); e != api.OK {
			t.Fatal(e)
		}
		want := s.List()
		for _, r := range [][2]int{
			{-1, 0}, {-1, n}, {-64, -64}, {math.MinInt, math.MaxInt}, {math.MinInt, n},
			{half + 1, half}, {n + 1, n}, {64, 0}, {math.MaxInt, 0}, {math.MaxInt, math.MinInt},
			{0, n + 1}, {n, n + 1}, {n + 1, n + 1}, {0, (n | 63) + 1}, {0, math.MaxInt}, {math.MaxInt, math.MaxInt},
		} {
			for _, on := range []bool{false, true} {
				if e := s.Fill(r[0], r[1], on); e != api.ErrRange {
					t.Errorf("length %d: Fill(%d, %d, %v): %v", n, r[0], r[1], on, e)
				}
			}
			wantList(t, s, want)
		}
	}
}

// The chapter's example, step by step.
func TestExample(t *testing.T) {
	s := newSet(t, 130, 0)
	if changed, e := s.Put(0); changed || e != api.OK {
		t.Error(changed, e)
	}
	if changed, e := s.Put(129); !changed || e != api.OK {
		t.Error(changed, e)
	}
	if changed, e := s.Put(130); changed || e != api.ErrRange {
		t.Error(changed, e)
	}
	if s.Next(1) != 129 || s.Next(-5) != 0 || s.Next(130) != -1 {
		t.Error(s.Next(1), s.Next(-5), s.Next(130))
	}
	if e := s.Fill(60, 70, true); e != api.OK {
		t.Error(e)
	}
	if s.Count(0, 130) != 12 || s.Count(65, 1000) != 6 || s.Count(70, 60) != 0 {
		t.Error(s.Count(0, 130), s.Count(65, 1000), s.Count(70, 60))
	}
	if changed, e := s.Drop(129); !changed || e != api.OK {
		t.Error(changed, e)
	}
	wantList(t, s, []int{0, 60, 61, 62, 63, 64, 65, 66, 67, 68, 69})
}
