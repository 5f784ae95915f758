package cset_test

import (
	"math"
	"slices"
	"testing"

	"gleaner/cset"
)

// P18.2

// The chapter's example.
func TestExampleOfNext(t *testing.T) {
	if a := next(t, example(), []int{1}); !slices.Equal(a, []cset.Candidate{{9, 30}, {4, 10}}) {
		t.Error(a)
	}
}

// The edges, each with its answer written out.
func TestNextAtTheEdges(t *testing.T) {
	twice := []cset.Candidate{{4, 10}, {2, 5}, {4, 3}, {0, 0}, {4, 10}, {2, -1}}
	for _, r := range []struct {
		list  []cset.Candidate
		taken []int
		want  []cset.Candidate
	}{
		// Nothing is taken, there are no candidates, neither.
		{example(), nil, example()},
		{example(), []int{}, example()},
		{nil, nil, nil},
		{nil, []int{1, 2}, nil},
		{[]cset.Candidate{}, []int{}, nil},
		// Regions that no candidate has, beside some that one has, and alone.
		{example(), []int{7}, example()},
		{example(), []int{0, 2, 3, 5, 8, 10, -1, -9}, example()},
		{example(), []int{10, 30}, example()},
		{example(), []int{0, 1, 2}, []cset.Candidate{{9, 30}, {4, 10}}},
		{example(), []int{9}, []cset.Candidate{{1, 10}, {4, 10}}},
		{example(), []int{4}, []cset.Candidate{{9, 30}, {1, 10}}},
		// All of them, in any order, and one twice.
		{example(), []int{1, 4, 9}, nil},
		{example(), []int{9, 4, 1}, nil},
		{example(), []int{4, 9, 1, 4, 9}, nil},
		{example(), []int{4, 4}, []cset.Candidate{{9, 30}, {1, 10}}},
		{example(), []int{9, 1, 9}, []cset.Candidate{{4, 10}}},
		// Several candidates of one Region, of the same Live and of others.
		{twice, nil, twice},
		{twice, []int{4}, []cset.Candidate{{2, 5}, {0, 0}, {2, -1}}},
		{twice, []int{2}, []cset.Candidate{{4, 10}, {4, 3}, {0, 0}, {4, 10}}},
		{twice, []int{0}, []cset.Candidate{{4, 10}, {2, 5}, {4, 3}, {4, 10}, {2, -1}}},
		{twice, []int{2, 4}, []cset.Candidate{{0, 0}}},
		{twice, []int{4, 2, 0}, nil},
		{[]cset.Candidate{{3, 1}, {3, 1}}, []int{1}, []cset.Candidate{{3, 1}, {3, 1}}},
		// The Live is asked for nothing.
		{[]cset.Candidate{{3, 1}, {1, 3}}, []int{1}, []cset.Candidate{{3, 1}}},
		{[]cset.Candidate{{3, math.MinInt}, {1, math.MaxInt}}, []int{math.MinInt, math.MaxInt}, []cset.Candidate{{3, math.MinInt}, {1, math.MaxInt}}},
		// The zero candidate, and regions of which the lowest bits alone are the same.
		{[]cset.Candidate{{0, 0}}, nil, []cset.Candidate{{0, 0}}},
		{[]cset.Candidate{{0, 0}}, []int{0}, nil},
		{[]cset.Candidate{{5, 1}, {1<<32 + 5, 1}, {5 - 1<<32, 1}, {261, 1}, {-5, 1}}, []int{5}, []cset.Candidate{{1<<32 + 5, 1}, {5 - 1<<32, 1}, {261, 1}, {-5, 1}}},
		{[]cset.Candidate{{5, 1}, {-5, 1}}, []int{1<<32 + 5, 5 - 1<<32, 261, -5}, []cset.Candidate{{5, 1}}},
		{[]cset.Candidate{{math.MaxInt, 1}, {math.MinInt, 2}, {-1, 3}}, []int{math.MaxInt}, []cset.Candidate{{math.MinInt, 2}, {-1, 3}}},
		{[]cset.Candidate{{math.MaxInt, 1}, {math.MinInt, 2}, {-1, 3}}, []int{math.MinInt, -1}, []cset.Candidate{{math.MaxInt, 1}}},
	} {
		if a := next(t, r.list, r.taken); !slices.Equal(a, r.want) {
			t.Errorf("Next(%v, %v): %v, not %v", r.list, r.taken, a, r.want)
		}
	}
}

// Each row of up to four candidates with each row of up to three regions.
func TestNextOfEachSmallList(t *testing.T) {
	eachRow([]cset.Candidate{{0, 1}, {1, 1}, {1, 0}, {2, -1}}, 4, func(list []cset.Candidate) {
		eachRow([]int{-1, 0, 1, 2, 3}, 3, func(taken []int) {
			wantNext(t, list, taken)
		})
	})
}

// Each two of the far numbers, as regions of candidates, as taken ones and as Lives.
func TestNextOfFarNumbers(t *testing.T) {
	for _, one := range far {
		for _, other := range far {
			wantNext(t, []cset.Candidate{{one, 1}, {other, 2}}, []int{one})
			wantNext(t, []cset.Candidate{{one, 1}, {other, 2}}, []int{other, other})
			wantNext(t, []cset.Candidate{{5, one}, {6, other}}, []int{one, other})
			wantNext(t, []cset.Candidate{{one, other}}, []int{other, 5})
			wantNext(t, []cset.Candidate{{one, 1}, {other, 2}, {one, 3}}, far)
		}
	}
}

// Next keeps the order of the candidates, whatever it is, and that of taken makes no difference.
func TestNextKeepsTheOrder(t *testing.T) {
	list := []cset.Candidate{{5, 1}, {3, 9}, {8, 2}, {3, 2}, {1, 4}, {9, 4}}
	eachOrder(list, func(list []cset.Candidate) {
		var want []cset.Candidate
		for _, c := range list {
			if c.Region == 5 || c.Region == 3 || c.Region == 9 {
				want = append(want, c)
			}
		}
		for _, taken := range [][]int{{1, 8}, {8, 1}, {8, 2, 1, 8}} {
			if a := cset.Next(list, taken); !slices.Equal(a, want) {
				t.Fatalf("Next(%v, %v): %v, not %v", list, taken, a, want)
			}
		}
	})
}

// Lists of each length up to some hundreds, by a rule; each taken list in an order by it.
func TestNextOfListsOfEachLength(t *testing.T) {
	d := dice(182)
	for n := range 300 {
		var list []cset.Candidate
		for range n {
			list = append(list, cset.Candidate{Region: d.below(2*n) - n/4, Live: d.below(9) - 4})
		}
		for _, some := range []int{n / 8, n / 2, 2 * n} {
			var taken []int
			for range some {
				taken = append(taken, d.below(2*n)-n/4)
			}
			wantNext(t, list, taken)
		}
	}
}

// As many candidates as regions may be, and more, of which each third one is taken.
func TestNextOfMostRegions(t *testing.T) {
	d := dice(183)
	var list, want []cset.Candidate
	var taken []int
	for r := range 1 << 17 {
		c := cset.Candidate{Region: r, Live: d.below(1 << 20)}
		list = append(list, c)
		if r%3 == 0 {
			taken = append(taken, r)
		}
	}
	list, taken = order(&d, list), order(&d, taken)
	for _, c := range list {
		if c.Region%3 != 0 {
			want = append(want, c)
		}
	}
	if a := cset.Next(list, taken); !slices.Equal(a, want) {
		t.Errorf("%d are left, not %d", len(a), len(want))
	}
	if a := cset.Next(list, nil); !slices.Equal(a, list) {
		t.Errorf("%d are left of %d", len(a), len(list))
	}
}

// What is answered shares no memory with another answer, nor with what was handed in.
func TestAnswersOfNextAreNew(t *testing.T) {
	list, taken := paddedCandidates(example()), padded([]int{1})
	for _, k := range [][]int{nil, {}, taken, {7}, {9, 1}} {
		one, other := cset.Next(list, k), cset.Next(list, k)
		want := slices.Concat(other, nil)
		spoil(one, cset.Candidate{Region: 66, Live: 66})
		if !slices.Equal(other, want) {
			t.Errorf("taken %v: the answers share memory", k)
		}
		if a := cset.Next(list, k); !slices.Equal(a, want) {
			t.Errorf("taken %v: %v, not %v", k, a, want)
		}
	}
	// What is handed in is changed behind the call: the answers stay.
	all, some := cset.Next(list, nil), cset.Next(list, taken)
	spoil(list, cset.Candidate{Region: 1000, Live: 1})
	spoil(taken, 9)
	if !slices.Equal(all, example()) || !slices.Equal(some, []cset.Candidate{{9, 30}, {4, 10}}) {
		t.Error(all, some)
	}
	// A list that is a piece of a greater one: what stands behind it is not written over.
	numbers := []int{9, 1, 5, 4}
	candidates := []cset.Candidate{{9, 30}, {1, 10}, {4, 10}, {2, 2}, {3, 3}}
	if a := cset.Next(candidates[:3], numbers[:2]); !slices.Equal(a, []cset.Candidate{{4, 10}}) {
		t.Error(a)
	}
	if !slices.Equal(numbers, []int{9, 1, 5, 4}) || !slices.Equal(candidates, []cset.Candidate{{9, 30}, {1, 10}, {4, 10}, {2, 2}, {3, 3}}) {
		t.Error(numbers, candidates)
	}
}

// Of what Choose took Next leaves just the others, round by round, till no candidate is left.
func TestNextOfWhatChooseTook(t *testing.T) {
	d := dice(184)
	for n := range 60 {
		var list []cset.Candidate
		for r := range n {
			list = append(list, cset.Candidate{Region: 3*r + 1, Live: d.below(20) - 2})
		}
		list = order(&d, list)
		young := []int{0, 3, 6}
		went := map[int]int{}
		for len(list) > 0 {
			taken := choose(t, young, list, 30)
			left := next(t, list, taken)
			if want := modelNext(list, modelChoose(young, list, 30)); !slices.Equal(left, want) {
				t.Fatalf("Next(%v, %v): %v, not %v", list, taken, left, want)
			}
			if len(left) >= len(list) {
				t.Fatalf("of %v nothing was taken", list)
			}
			for _, r := range taken {
				went[r]++
			}
			list = left
		}
		for r := range n {
			if went[3*r+1] != 1 {
				t.Errorf("%d candidates: the region %d was taken %d times", n, 3*r+1, went[3*r+1])
			}
		}
	}
}

// A region that was too much comes first when the budget is enough for it.
func TestRoundsOfTheExample(t *testing.T) {
	list := example()
	for _, r := range []struct {
		budget int
		taken  []int
		left   []cset.Candidate
	}{
		{5, nil, example()},
		{10, []int{1}, []cset.Candidate{{9, 30}, {4, 10}}},
		{39, []int{4}, []cset.Candidate{{9, 30}}},
		{29, nil, []cset.Candidate{{9, 30}}},
		{30, []int{9}, nil},
		{30, nil, nil},
	} {
		taken := choose(t, nil, list, r.budget)
		list = next(t, list, taken)
		if !slices.Equal(taken, r.taken) || !slices.Equal(list, r.left) {
			t.Errorf("budget %d: %v, %v", r.budget, taken, list)
		}
	}
}
