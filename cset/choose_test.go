package cset_test

import (
	"math"
	"slices"
	"testing"

	"gleaner/cset"
)

// P18.1

// example is the chapter's list of candidates.
func example() []cset.Candidate {
	return []cset.Candidate{{Region: 9, Live: 30}, {Region: 1, Live: 10}, {Region: 4, Live: 10}}
}

// The chapter's examples.
func TestExamplesOfChoose(t *testing.T) {
	if a := choose(t, []int{5, 2}, example(), 25); !slices.Equal(a, []int{1, 2, 4, 5}) {
		t.Error(a)
	}
	if a := choose(t, []int{5, 2}, example(), 9); !slices.Equal(a, []int{2, 5}) {
		t.Error(a)
	}
}

// chosen is a call of Choose, and what it answers.
type chosen struct {
	young  []int
	list   []cset.Candidate
	budget int
	want   []int
}

// wantEach holds calls against the answers that are written out, with the candidates in each order.
func wantEach(t *testing.T, calls []chosen) {
	t.Helper()
	for _, r := range calls {
		eachOrder(r.list, func(list []cset.Candidate) {
			if a := choose(t, r.young, list, r.budget); !slices.Equal(a, r.want) {
				t.Errorf("Choose(%v, %v, %d): %v, not %v", r.young, list, r.budget, a, r.want)
			}
			wantChoose(t, r.young, list, r.budget)
		})
	}
}

// The edges of budgets, each with its answer written out.
func TestBudgetsAtTheEdges(t *testing.T) {
	costly := []cset.Candidate{{7, 20}, {3, 12}, {5, 30}}
	wantEach(t, []chosen{
		{nil, costly, math.MinInt, nil},
		{nil, costly, -1, nil},
		{nil, costly, 0, nil},
		// Just what the cheapest costs, one less, and one more.
		{nil, costly, 11, nil},
		{nil, costly, 12, []int{3}},
		{nil, costly, 13, []int{3}},
		// The next one.
		{nil, costly, 31, []int{3}},
		{nil, costly, 32, []int{3, 7}},
		{nil, costly, 33, []int{3, 7}},
		// Just what all cost together.
		{nil, costly, 61, []int{3, 7}},
		{nil, costly, 62, []int{3, 5, 7}},
		{nil, costly, 63, []int{3, 5, 7}},
		{nil, costly, math.MaxInt, []int{3, 5, 7}},
		// Of the lowest bits alone a budget is less, or enough.
		{nil, costly, 1<<32 + 11, []int{3, 5, 7}},
		{nil, costly, 12 - 1<<32, nil},
		{nil, costly, 256, []int{3, 5, 7}},
	})
}

// No young regions, no candidates, neither.
func TestListsOfNone(t *testing.T) {
	for _, young := range [][]int{nil, {}, make([]int, 0, 5)} {
		for _, list := range [][]cset.Candidate{nil, {}, make([]cset.Candidate, 0, 5)} {
			for _, budget := range far {
				if a := cset.Choose(young, list, budget); len(a) != 0 {
					t.Errorf("Choose(%v, %v, %d): %v", young, list, budget, a)
				}
				wantChoose(t, young, list, budget)
				wantChoose(t, []int{4, 4, 0}, list, budget)
				wantChoose(t, young, example(), budget)
			}
		}
	}
	wantEach(t, []chosen{
		{nil, nil, 5, nil},
		{[]int{6}, nil, 5, []int{6}},
		{[]int{6, 0, 3}, nil, 5, []int{0, 3, 6}},
		{[]int{6, 0, 3}, nil, -5, []int{0, 3, 6}},
		{nil, []cset.Candidate{{6, 5}}, 5, []int{6}},
		{nil, []cset.Candidate{{6, 5}}, 4, nil},
		{nil, []cset.Candidate{{6, 0}}, 0, []int{6}},
		{nil, []cset.Candidate{{0, 0}}, 0, []int{0}},
		{nil, []cset.Candidate{{6, 0}}, -1, nil},
	})
}

// The young regions are taken whatever the budget is, and cost nothing of it.
func TestYoungCostNothing(t *testing.T) {
	young := []int{8, 2, 60, 40, 40, 2}
	wantEach(t, []chosen{
		{young, example(), -1, []int{2, 8, 40, 60}},
		{young, example(), 0, []int{2, 8, 40, 60}},
		{young, example(), 10, []int{1, 2, 8, 40, 60}},
		{young, example(), 50, []int{1, 2, 4, 8, 9, 40, 60}},
		{young, example(), math.MinInt, []int{2, 8, 40, 60}},
	})
}

// Of the same Live the lowest region is taken first.
func TestRegionsDecide(t *testing.T) {
	same := []cset.Candidate{{8, 10}, {-3, 10}, {65536, 10}, {0, 10}, {5, 10}}
	wantEach(t, []chosen{
		{nil, same, 9, nil},
		{nil, same, 10, []int{-3}},
		{nil, same, 20, []int{-3, 0}},
		{nil, same, 29, []int{-3, 0}},
		{nil, same, 39, []int{-3, 0, 5}},
		{nil, same, 40, []int{-3, 0, 5, 8}},
		{nil, same, 50, []int{-3, 0, 5, 8, 65536}},
		{nil, []cset.Candidate{{math.MaxInt, 7}, {math.MinInt, 7}, {0, 7}}, 7, []int{math.MinInt}},
		{nil, []cset.Candidate{{math.MaxInt, 7}, {math.MinInt, 7}, {0, 7}}, 14, []int{math.MinInt, 0}},
		{nil, []cset.Candidate{{math.MaxInt, 7}, {math.MaxInt - 1, 7}, {1 << 32, 7}}, 14, []int{1 << 32, math.MaxInt - 1}},
		// The Live is asked ahead of the region.
		{nil, []cset.Candidate{{1, 9}, {2, 8}, {3, 7}}, 15, []int{2, 3}},
		{nil, []cset.Candidate{{1, 9}, {2, 8}, {3, 7}}, 8, []int{3}},
	})
}

// The first that is too much ends it, though one behind it is a copy of one that was taken, or would fit by itself.
func TestTooMuchEndsIt(t *testing.T) {
	wantEach(t, []chosen{
		{nil, []cset.Candidate{{1, 4}, {2, 5}, {3, 5}}, 8, []int{1}},
		{nil, []cset.Candidate{{1, 4}, {2, 5}, {3, 6}}, 8, []int{1}},
		{nil, []cset.Candidate{{1, 6}, {2, 6}, {3, 6}}, 11, []int{1}},
		{[]int{2}, []cset.Candidate{{1, 6}, {2, 6}, {3, 6}}, 11, []int{1, 2}},
		{nil, []cset.Candidate{{1, 3}, {2, 100}, {3, 101}}, 99, []int{1}},
		{nil, []cset.Candidate{{1, math.MaxInt}, {2, math.MaxInt}, {3, 1}}, math.MaxInt, []int{3}},
		{nil, []cset.Candidate{{1, math.MaxInt}, {2, math.MaxInt}, {3, 0}}, math.MaxInt, []int{1, 3}},
		// What costs nothing is gone through ahead of all that costs something, wherever it stands.
		{nil, []cset.Candidate{{1, 100}, {2, 0}, {3, -4}}, 9, []int{2, 3}},
		// A budget below 0 is too little even for what costs nothing.
		{nil, []cset.Candidate{{1, 0}, {2, -1}, {3, math.MinInt}}, -1, nil},
	})
}

// Lives of 0 and below cost nothing, several of them, too, and give nothing back.
func TestLivesBelowNothing(t *testing.T) {
	wantEach(t, []chosen{
		{nil, []cset.Candidate{{1, 0}}, 0, []int{1}},
		{nil, []cset.Candidate{{1, -1}}, 0, []int{1}},
		{nil, []cset.Candidate{{1, math.MinInt}}, 0, []int{1}},
		{nil, []cset.Candidate{{4, 0}, {3, -1}, {2, -100}, {1, math.MinInt}}, 0, []int{1, 2, 3, 4}},
		{nil, []cset.Candidate{{4, 1}, {3, -1}, {2, -100}, {1, math.MinInt}}, 0, []int{1, 2, 3}},
		{nil, []cset.Candidate{{4, 51}, {3, -100}, {2, -100}}, 50, []int{2, 3}},
		{nil, []cset.Candidate{{4, 50}, {3, -100}, {2, -100}}, 50, []int{2, 3, 4}},
		{nil, []cset.Candidate{{4, math.MaxInt}, {3, math.MinInt}, {2, math.MinInt}}, math.MaxInt - 1, []int{2, 3}},
		{nil, []cset.Candidate{{4, math.MaxInt}, {3, math.MinInt}, {2, math.MinInt}}, math.MaxInt, []int{2, 3, 4}},
		{nil, []cset.Candidate{{4, 0}, {3, math.MinInt}, {2, -1}}, -1, nil},
		{nil, []cset.Candidate{{4, 0}, {3, math.MinInt}, {2, -1}}, math.MinInt, nil},
		{[]int{9}, []cset.Candidate{{4, -7}, {3, 7}}, 6, []int{4, 9}},
	})
}

// A region that is told more than once: each candidate has its own cost, the region is named once.
func TestRegionsTwice(t *testing.T) {
	wantEach(t, []chosen{
		{[]int{5, 5}, nil, 0, []int{5}},
		{[]int{5, 2, 5, 2, 5}, nil, -1, []int{2, 5}},
		// Twice among the candidates, with the same Live.
		{nil, []cset.Candidate{{1, 10}, {1, 10}}, 9, nil},
		{nil, []cset.Candidate{{1, 10}, {1, 10}}, 10, []int{1}},
		{nil, []cset.Candidate{{1, 10}, {1, 10}}, 20, []int{1}},
		{nil, []cset.Candidate{{1, 10}, {1, 10}, {2, 10}}, 20, []int{1}},
		{nil, []cset.Candidate{{1, 10}, {1, 10}, {2, 10}}, 29, []int{1}},
		{nil, []cset.Candidate{{1, 10}, {1, 10}, {2, 10}}, 30, []int{1, 2}},
		// And with another one.
		{nil, []cset.Candidate{{1, 10}, {1, 20}, {2, 15}}, 24, []int{1}},
		{nil, []cset.Candidate{{1, 10}, {1, 20}, {2, 15}}, 25, []int{1, 2}},
		{nil, []cset.Candidate{{1, 10}, {1, 20}, {2, 21}}, 50, []int{1}},
		{nil, []cset.Candidate{{1, 10}, {1, 20}, {2, 21}}, 51, []int{1, 2}},
		{nil, []cset.Candidate{{1, 0}, {1, -1}, {2, 5}}, 5, []int{1, 2}},
		// Both in young and among the candidates.
		{[]int{1}, []cset.Candidate{{1, 10}, {2, 10}}, 9, []int{1}},
		{[]int{1}, []cset.Candidate{{1, 10}, {2, 10}}, 10, []int{1}},
		{[]int{1}, []cset.Candidate{{1, 10}, {2, 10}}, 19, []int{1}},
		{[]int{1}, []cset.Candidate{{1, 10}, {2, 10}}, 20, []int{1, 2}},
		{[]int{2}, []cset.Candidate{{1, 10}, {2, 10}}, 10, []int{1, 2}},
		{[]int{1, 1}, []cset.Candidate{{1, 10}, {1, 10}, {2, 10}}, 20, []int{1}},
		{[]int{1, 1}, []cset.Candidate{{1, 10}, {1, 10}, {2, 10}}, 30, []int{1, 2}},
		{[]int{1}, []cset.Candidate{{1, 100}, {2, 100}}, 99, []int{1}},
	})
}

// Sums and differences of these would wrap round: two of a half, three of a third, and the greatest ones.
func TestSumsThatWouldWrapRound(t *testing.T) {
	third := math.MaxInt / 3
	wantEach(t, []chosen{
		{nil, []cset.Candidate{{1, 1 << 62}, {2, 1 << 62}}, math.MaxInt, []int{1}},
		{nil, []cset.Candidate{{1, 1<<62 - 1}, {2, 1 << 62}}, math.MaxInt, []int{1, 2}},
		{nil, []cset.Candidate{{1, 1<<62 - 1}, {2, 1 << 62}}, math.MaxInt - 1, []int{1}},
		{nil, []cset.Candidate{{1, third}, {2, third}, {3, third + 1}}, math.MaxInt, []int{1, 2, 3}},
		{nil, []cset.Candidate{{1, third}, {2, third}, {3, third + 2}}, math.MaxInt, []int{1, 2}},
		{nil, []cset.Candidate{{1, math.MaxInt}, {2, math.MaxInt}}, math.MaxInt, []int{1}},
		{nil, []cset.Candidate{{1, math.MaxInt}, {2, 1}}, math.MaxInt, []int{2}},
		{nil, []cset.Candidate{{1, math.MaxInt}, {2, 0}}, math.MaxInt, []int{1, 2}},
		{nil, []cset.Candidate{{1, math.MaxInt}}, math.MaxInt - 1, nil},
		// Four of these sum to 0, and four of those to -4, where an int wraps round.
		{nil, []cset.Candidate{{1, 1 << 62}, {2, 1 << 62}, {3, 1 << 62}, {4, 1 << 62}}, math.MaxInt, []int{1}},
		{nil, []cset.Candidate{{1, math.MaxInt}, {2, math.MaxInt}, {3, math.MaxInt}, {4, math.MaxInt}}, 5, nil},
		// What is told of the least budget would be the greatest one.
		{nil, []cset.Candidate{{1, 1}, {2, 5}}, math.MinInt, nil},
		{nil, []cset.Candidate{{1, math.MaxInt}}, math.MinInt, nil},
		{nil, []cset.Candidate{{1, math.MaxInt}, {2, 2}}, -2, nil},
		// The Lives are further from one another than an int can tell.
		{nil, []cset.Candidate{{1, math.MaxInt}, {2, math.MinInt}, {3, 1}}, 1, []int{2, 3}},
		{nil, []cset.Candidate{{1, 1 << 62}, {2, -1<<62 - 1}, {3, 5}}, 5, []int{2, 3}},
		// And the regions.
		{nil, []cset.Candidate{{math.MinInt, 5}, {math.MaxInt, 5}, {-1, 5}}, 5, []int{math.MinInt}},
		{[]int{math.MaxInt, math.MinInt}, []cset.Candidate{{0, 5}}, 5, []int{math.MinInt, 0, math.MaxInt}},
	})
}

// Each number of far ones: as a region, as a Live and as a budget, each two and each three of them.
func TestFarNumbers(t *testing.T) {
	for _, one := range far {
		for _, other := range far {
			wantChoose(t, []int{one, other}, nil, 0)
			wantChoose(t, []int{one}, []cset.Candidate{{other, 1}}, 1)
			wantChoose(t, nil, []cset.Candidate{{one, 1}, {other, 1}}, 1)
			for _, third := range far {
				wantChoose(t, nil, []cset.Candidate{{1, one}, {2, other}}, third)
				wantChoose(t, []int{third}, []cset.Candidate{{one, 3}, {other, 4}}, 6)
				wantChoose(t, nil, []cset.Candidate{{one, other}, {7, 2}}, third)
			}
		}
	}
}

// Each row of up to four candidates with each small budget.
func TestChooseOfEachSmallList(t *testing.T) {
	var items []cset.Candidate
	for _, region := range []int{0, 1, 2} {
		for _, live := range []int{-1, 0, 1, 2} {
			items = append(items, cset.Candidate{Region: region, Live: live})
		}
	}
	eachRow(items, 4, func(list []cset.Candidate) {
		for budget := -1; budget < 6; budget++ {
			wantChoose(t, []int{1}, list, budget)
		}
	})
}

// Each row of up to four young regions, with each row of up to two candidates.
func TestChooseOfEachYoung(t *testing.T) {
	items := []cset.Candidate{{-1, 1}, {0, 1}, {1, 0}, {1, 2}, {2, 1}}
	eachRow([]int{-1, 0, 1, 2}, 4, func(young []int) {
		eachRow(items, 2, func(list []cset.Candidate) {
			for budget := -1; budget < 4; budget++ {
				wantChoose(t, young, list, budget)
			}
		})
	})
}

// Seven candidates in each order: the order makes no difference.
func TestOrderMakesNoDifference(t *testing.T) {
	list := []cset.Candidate{{5, 1}, {3, 1}, {8, 2}, {3, 2}, {1, 4}, {9, 4}, {4, -1}}
	for _, r := range []struct {
		budget int
		want   []int
	}{{-1, nil}, {0, []int{4}}, {1, []int{3, 4}}, {3, []int{3, 4, 5}}, {4, []int{3, 4, 5}}, {6, []int{3, 4, 5, 8}}, {10, []int{1, 3, 4, 5, 8}}, {13, []int{1, 3, 4, 5, 8}}, {14, []int{1, 3, 4, 5, 8, 9}}} {
		eachOrder(list, func(list []cset.Candidate) {
			if a := cset.Choose(nil, list, r.budget); !slices.Equal(a, r.want) {
				t.Fatalf("Choose(nil, %v, %d): %v, not %v", list, r.budget, a, r.want)
			}
		})
	}
}

// Lists of each length up to some hundreds, by a rule: sorted, turned round, and in two other orders.
func TestListsOfEachLength(t *testing.T) {
	d := dice(18)
	for n := range 300 {
		var young []int
		var list []cset.Candidate
		sum := 0
		for range n {
			c := cset.Candidate{Region: d.below(2*n) - n/8, Live: d.below(1+d.below(n)) - n/16}
			list = append(list, c)
			sum += max(0, c.Live)
			if d.below(3) == 0 {
				young = append(young, d.below(2*n))
			}
		}
		for _, budget := range []int{0, d.below(sum + 1), sum / 2, sum - 1, sum, sum + 1} {
			want := modelChoose(young, list, budget)
			turned := slices.Concat(list, nil)
			slices.Reverse(turned)
			for _, l := range [][]cset.Candidate{list, turned, order(&d, list), order(&d, list)} {
				if a := choose(t, order(&d, young), l, budget); !slices.Equal(a, want) {
					t.Fatalf("Choose(%v, %v, %d): %v, not %v", young, l, budget, a, want)
				}
			}
		}
	}
}

// As many regions as a heap may have, and more: each second one is young, the others cost 1, 2, 3 and so on.
func TestMostRegions(t *testing.T) {
	d := dice(181)
	const most = 1 << 17
	var young, want []int
	var list []cset.Candidate
	for n := range most / 2 {
		young = append(young, 2*n)
		list = append(list, cset.Candidate{Region: 2*n + 1, Live: n + 1})
	}
	young, list = order(&d, young), order(&d, list)
	for _, taken := range []int{0, 1, 2, 1000, most/2 - 1, most / 2} {
		want = want[:0]
		for r := range most {
			if r%2 == 0 || r/2 < taken {
				want = append(want, r)
			}
		}
		// One less than what the next one would need, too.
		for _, budget := range []int{taken * (taken + 1) / 2, taken*(taken+1)/2 + taken} {
			if a := cset.Choose(young, list, budget); !slices.Equal(a, want) {
				t.Errorf("%d are to be taken: %d regions", taken, len(a))
			}
		}
	}
}

// Two answers share no memory, nor do young and list with one of an earlier call.
func TestAnswersOfChooseAreNew(t *testing.T) {
	young, list := padded([]int{5, 2}), paddedCandidates(example())
	for _, budget := range []int{-1, 0, 10, 25, 50} {
		one, other := cset.Choose(young, list, budget), cset.Choose(young, list, budget)
		want := slices.Concat(other, nil)
		spoil(one, 66)
		if !slices.Equal(other, want) {
			t.Errorf("budget %d: the answers share memory", budget)
		}
		if a := cset.Choose(young, list, budget); !slices.Equal(a, want) {
			t.Errorf("budget %d: %v, not %v", budget, a, want)
		}
	}
	// What is handed in is changed behind the call: the answer stays.
	a := cset.Choose(young, list, 50)
	spoil(young, 1000)
	spoil(list, cset.Candidate{Region: 1001, Live: 1})
	if !slices.Equal(a, []int{1, 2, 4, 5, 9}) {
		t.Error(a)
	}
}

// An answer is handed in again as young: it stays as it is, and its regions stay taken.
func TestAnswersAsYoung(t *testing.T) {
	young := cset.Choose([]int{5, 2}, example(), 10)
	all := cset.Choose(young, example(), 50)
	if !slices.Equal(young, []int{1, 2, 5}) || !slices.Equal(all, []int{1, 2, 4, 5, 9}) {
		t.Error(young, all)
	}
	// A young list that is a piece of a greater one: what stands behind it is not written over.
	numbers := []int{7, 3, 7, 100, 101, 102, 103, 104}
	if a := cset.Choose(numbers[:3], example(), 50); !slices.Equal(a, []int{1, 3, 4, 7, 9}) || !slices.Equal(numbers, []int{7, 3, 7, 100, 101, 102, 103, 104}) {
		t.Error(a, numbers)
	}
}
