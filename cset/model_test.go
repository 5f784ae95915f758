package cset_test

import (
	"math"
	"math/big"
	"slices"
	"testing"

	"gleaner/cset"
)

// far are numbers at both ends of what an int can be, where sums, differences and narrowings wrap round.
var far = []int{
	math.MinInt, math.MinInt + 1, math.MinInt + 2, -1<<62 - 1, -1 << 62, 1 - 1<<62, -1<<32 - 1, -1 << 32, 1 - 1<<32, -1<<31 - 1, -1 << 31, -65536, -257, -256, -3, -2, -1,
	0, 1, 2, 3, 255, 256, 65535, 65536, 1<<31 - 1, 1 << 31, 1<<32 - 1, 1 << 32, 1<<32 + 1, 1<<62 - 1, 1 << 62, 1<<62 + 1, math.MaxInt - 2, math.MaxInt - 1, math.MaxInt,
}

// spare stands in the room behind each list that is handed in.
const spare = -987654321

// padded is a list with room behind it, so that what is written there is seen.
func padded(list []int) []int {
	all := slices.Concat(list, []int{spare, spare, spare})
	return all[:len(list)]
}

func paddedCandidates(list []cset.Candidate) []cset.Candidate {
	none := cset.Candidate{Region: spare, Live: spare}
	all := slices.Concat(list, []cset.Candidate{none, none, none})
	return all[:len(list)]
}

// whole is a list with all its room.
func whole[E any](list []E) []E {
	return list[:cap(list)]
}

// spoil writes over a list and all its room.
func spoil[E any](list []E, with E) {
	for i := range whole(list) {
		whole(list)[i] = with
	}
}

// modelCost is what a candidate takes of a budget, a number without an end.
func modelCost(c cset.Candidate) *big.Int {
	if c.Live < 0 {
		return big.NewInt(0)
	}
	return big.NewInt(int64(c.Live))
}

// modelFirst is the place of the candidate that is gone through first, found by holding each against all others.
func modelFirst(list []cset.Candidate) int {
	first := 0
	for i, c := range list {
		by := modelCost(c).Cmp(modelCost(list[first]))
		if by < 0 || by == 0 && c.Region < list[first].Region {
			first = i
		}
	}
	return first
}

// modelTaken are the candidates that are taken, in the order in which they are gone through.
func modelTaken(list []cset.Candidate, budget int) []cset.Candidate {
	var taken []cset.Candidate
	left := slices.Concat(list, nil)
	sum := big.NewInt(0)
	for len(left) > 0 {
		i := modelFirst(left)
		sum.Add(sum, modelCost(left[i]))
		if sum.Cmp(big.NewInt(int64(budget))) > 0 {
			break
		}
		taken = append(taken, left[i])
		left = append(left[:i], left[i+1:]...)
	}
	return taken
}

// modelRise puts each of a list's numbers once where it belongs.
func modelRise(list []int) []int {
	var rising []int
	for _, n := range list {
		i := 0
		for i < len(rising) && rising[i] < n {
			i++
		}
		if i == len(rising) || rising[i] != n {
			rising = slices.Insert(rising, i, n)
		}
	}
	return rising
}

func modelChoose(young []int, list []cset.Candidate, budget int) []int {
	all := slices.Concat(young, nil)
	for _, c := range modelTaken(list, budget) {
		all = append(all, c.Region)
	}
	return modelRise(all)
}

func modelNext(list []cset.Candidate, taken []int) []cset.Candidate {
	var left []cset.Candidate
next:
	for _, c := range list {
		for _, r := range taken {
			if r == c.Region {
				continue next
			}
		}
		left = append(left, c)
	}
	return left
}

// choose calls Choose, and asks that nothing that was handed in is changed, nor what is answered by what becomes of that.
func choose(t *testing.T, young []int, list []cset.Candidate, budget int) []int {
	t.Helper()
	y, l := padded(young), paddedCandidates(list)
	wholeY, wholeL := slices.Concat(whole(y), nil), slices.Concat(whole(l), nil)
	a := cset.Choose(y, l, budget)
	got := slices.Concat(a, nil)
	if !slices.Equal(whole(y), wholeY) || !slices.Equal(whole(l), wholeL) {
		t.Fatalf("Choose(%v, %v, %d) changed what it was handed: %v, %v", young, list, budget, whole(y), whole(l))
	}
	spoil(a, 77777)
	if !slices.Equal(whole(y), wholeY) || !slices.Equal(whole(l), wholeL) {
		t.Fatalf("Choose(%v, %v, %d): the answer shares memory with what was handed in", young, list, budget)
	}
	if b := cset.Choose(y, l, budget); !slices.Equal(b, got) {
		t.Fatalf("Choose(%v, %v, %d): first %v, then %v", young, list, budget, got, b)
	}
	return got
}

// next calls Next, and asks the same of it.
func next(t *testing.T, list []cset.Candidate, taken []int) []cset.Candidate {
	t.Helper()
	l, k := paddedCandidates(list), padded(taken)
	wholeL, wholeK := slices.Concat(whole(l), nil), slices.Concat(whole(k), nil)
	a := cset.Next(l, k)
	got := slices.Concat(a, nil)
	if !slices.Equal(whole(l), wholeL) || !slices.Equal(whole(k), wholeK) {
		t.Fatalf("Next(%v, %v) changed what it was handed: %v, %v", list, taken, whole(l), whole(k))
	}
	spoil(a, cset.Candidate{Region: 77777, Live: 77777})
	if !slices.Equal(whole(l), wholeL) || !slices.Equal(whole(k), wholeK) {
		t.Fatalf("Next(%v, %v): the answer shares memory with what was handed in", list, taken)
	}
	if b := cset.Next(l, k); !slices.Equal(b, got) {
		t.Fatalf("Next(%v, %v): first %v, then %v", list, taken, got, b)
	}
	return got
}

// wantChoose holds an answer against the model's, and asks that it rises.
func wantChoose(t *testing.T, young []int, list []cset.Candidate, budget int) {
	t.Helper()
	a, want := choose(t, young, list, budget), modelChoose(young, list, budget)
	if !slices.Equal(a, want) {
		t.Fatalf("Choose(%v, %v, %d): %v, not %v", young, list, budget, a, want)
	}
	for i := 1; i < len(a); i++ {
		if a[i-1] >= a[i] {
			t.Fatalf("Choose(%v, %v, %d): %v doesn't rise", young, list, budget, a)
		}
	}
}

// wantNext holds an answer against the model's.
func wantNext(t *testing.T, list []cset.Candidate, taken []int) {
	t.Helper()
	if a, want := next(t, list, taken), modelNext(list, taken); !slices.Equal(a, want) {
		t.Fatalf("Next(%v, %v): %v, not %v", list, taken, a, want)
	}
}

// eachRow calls with each row of at most so many of some items; the row is the caller's only till the call ends.
func eachRow[E any](items []E, most int, call func([]E)) {
	row := make([]E, 0, most)
	var grow func()
	grow = func() {
		call(row)
		if len(row) == most {
			return
		}
		for _, x := range items {
			row = append(row, x)
			grow()
			row = row[:len(row)-1]
		}
	}
	grow()
}

// eachOrder calls with each order of some items.
func eachOrder[E any](items []E, call func([]E)) {
	order := slices.Concat(items, nil)
	var swap func(int)
	swap = func(i int) {
		if i >= len(order) {
			call(order)
			return
		}
		for j := i; j < len(order); j++ {
			order[i], order[j] = order[j], order[i]
			swap(i + 1)
			order[i], order[j] = order[j], order[i]
		}
	}
	swap(0)
}

// dice gives numbers by a rule, the same ones each time.
type dice uint64

func (d *dice) below(n int) int {
	*d = *d*6364136223846793005 + 1442695040888963407
	return int(uint64(*d) >> 33 % uint64(n))
}

// order puts items into an order by the rule.
func order[E any](d *dice, items []E) []E {
	all := slices.Concat(items, nil)
	for i := range all {
		j := i + d.below(len(all)-i)
		all[i], all[j] = all[j], all[i]
	}
	return all
}
