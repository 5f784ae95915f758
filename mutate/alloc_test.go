package mutate_test

import (
	"slices"
	"testing"

	"gleaner/api"
)

// words allocates an object of so many, the header too, without references.
func words(size int) api.Op {
	return alloc(0, size-1)
}

// wantAt asks where the object of a thread's last handle stands.
func (x *rig) wantAt(t *testing.T, i, at int) {
	t.Helper()
	l := x.h.Roots[i].List()
	if len(l) == 0 || l[len(l)-1] != api.Ref(at+1) {
		t.Fatalf("handles %v: not at %d", l, at)
	}
}

// wantTop asks how far a region is filled, and what its row is.
func (x *rig) wantTop(t *testing.T, r, top int, row ...int) {
	t.Helper()
	if x.h.Regions.Top(r) != top {
		t.Fatalf("region %d: Top %d, not %d", r, x.h.Regions.Top(r), top)
	}
	if l, e := x.h.Row(r); !slices.Equal(l, row) || e != api.OK {
		t.Fatalf("region %d: row %v, %v, not %v", r, l, e, row)
	}
}

func (x *rig) wantLeft(t *testing.T, i, first, behind int) {
	t.Helper()
	if a, b := x.h.Buffers[i].Rest(); a != first || b != behind {
		t.Fatalf("thread %d: a buffer of %d to %d, not %d to %d", i, a, b, first, behind)
	}
}

// The words of a buffer to the last one; behind them a new region.
func TestAllocToTheLastWord(t *testing.T) {
	x := newRig(t, small())
	x.want(t, 0, words(30), api.OK, "bd")
	x.wantTop(t, 0, 64, 0)
	x.want(t, 0, words(30), api.OK, "bd")
	x.want(t, 0, words(4), api.OK, "bd")
	x.wantAt(t, 0, 60)
	x.wantTop(t, 0, 64, 0, 30, 60)
	x.wantLeft(t, 0, 64, 64)
	x.want(t, 0, words(2), api.OK, "bd")
	x.wantAt(t, 0, 64)
	x.wantTop(t, 0, 64, 0, 30, 60)
	x.wantLeft(t, 0, 66, 128)
	x.wantTop(t, 1, 128, 64)
	x.wantSound(t)
}

// An object that doesn't fit by one word drops what is left.
func TestAllocBehindTheLastWord(t *testing.T) {
	x := newRig(t, small())
	x.must(t, 0, words(30), words(30))
	x.start(t, 0, words(5))
	x.step(t, 0)
	x.wantTop(t, 0, 60, 0, 30)
	x.wantLeft(t, 0, 69, 128)
	x.step(t, 0)
	x.wantAt(t, 0, 64)
	x.wantTop(t, 1, 128, 64)
	x.must(t, 0, words(3)) // there is room for it in the region 0, but no buffer
	x.wantAt(t, 0, 69)
	x.wantSound(t)
}

// What is left is dropped even if the operation wants then: what would have fitted wants, too.
func TestRestIsDroppedByWhatWants(t *testing.T) {
	c := small()
	c.Young = 1
	x := newRig(t, c)
	x.must(t, 0, words(30), words(30))
	x.want(t, 0, words(5), 0, "w")
	x.wantTop(t, 0, 60, 0, 30)
	x.wantLeft(t, 0, 0, 0)
	x.wantSound(t)
	x.fail(t, 0)
	x.want(t, 0, words(4), 0, "w")
	x.fail(t, 0)
	x.want(t, 0, words(2), 0, "w")
	x.wantSound(t)
}

// The other threads' buffers stay, also in a step that drops what is left in one.
func TestBuffersOfOthersStay(t *testing.T) {
	c := small()
	c.Threads, c.Young = 3, 4
	x := newRig(t, c)
	for i := range 3 {
		x.want(t, i, words(20), api.OK, "bd")
		x.wantAt(t, i, i*64)
	}
	x.must(t, 1, words(20), words(30))
	x.wantAt(t, 1, 192)
	x.wantTop(t, 1, 104, 64, 84)
	x.wantLeft(t, 0, 20, 64)
	x.wantLeft(t, 1, 222, 256)
	x.wantLeft(t, 2, 148, 192)
	x.must(t, 2, words(20))
	x.wantAt(t, 2, 148)
	x.wantSound(t)
}

// The buffers that a pause retired have no words: a new region is taken.
func TestAllocBehindRetire(t *testing.T) {
	x := newRig(t, small())
	x.must(t, 0, words(20))
	x.h.Retire()
	x.read()
	x.wantTop(t, 0, 20, 0)
	x.must(t, 0, words(20))
	x.wantAt(t, 0, 64)
	x.wantTop(t, 0, 20, 0)
	x.wantSound(t)
}

// As many regions may be Eden as Young says, whichever thread has them, and whatever else there is.
func TestYoung(t *testing.T) {
	for young := 1; young <= 6; young++ {
		for others := 0; others <= 6-young; others++ {
			c := small()
			c.Young, c.Roots = young, 64
			x := newRig(t, c)
			x.g = nil
			for n := range others {
				x.claim(t, []api.RegionState{api.Survivor, api.Old}[n%2])
			}
			x.read()
			for n := range young {
				x.want(t, n%2, words(32), api.OK, "bd")
				x.wantAt(t, n%2, (others+n)*64)
				x.want(t, n%2, words(32), api.OK, "bd")
			}
			x.want(t, 0, words(2), 0, "w")
			x.want(t, 1, words(32), 0, "w")
			if n := len(x.h.Regions.List(api.Eden)); n != young {
				t.Fatal(n, young)
			}
			x.wantSound(t)
			wantOneMore(t, x, others, young)
		}
	}
}

// wantOneMore makes one Eden region another one: if a region is free, a thread that wants goes on, and the other one wants yet.
func wantOneMore(t *testing.T, x *rig, others, young int) {
	t.Helper()
	x.h.Regions.Turn(others, api.Survivor)
	x.read()
	if others+young == 6 {
		if _, steps := x.rest(t, 1); steps != "w" {
			t.Fatal(steps)
		}
		x.fail(t, 1)
		x.want(t, 1, words(2), 0, "w")
		return
	}
	if a, steps := x.rest(t, 1); a.Code != api.OK || steps != "bd" {
		t.Fatal(a, steps)
	}
	if _, steps := x.rest(t, 0); steps != "w" {
		t.Fatal(steps)
	}
	x.wantSound(t)
}

// No region is free: small and big ones want; once one is free, it is taken.
func TestNoRegionIsFree(t *testing.T) {
	for r := range 6 {
		for _, size := range []int{2, 32, 33, 64} {
			x := newRig(t, small())
			x.g = nil
			x.claim(t, api.Old, api.Old, api.Old, api.Old, api.Old, api.Old)
			x.read()
			x.want(t, 0, words(size), 0, "w")
			for range 3 {
				if _, steps := x.rest(t, 0); steps != "w" {
					t.Fatal(steps)
				}
			}
			x.h.Free(r)
			x.read()
			if a, steps := x.rest(t, 0); a.Code != api.OK || a.Op != 0 || steps != "bd" {
				t.Fatal(a, steps)
			}
			x.wantAt(t, 0, r*64)
			x.wantSound(t)
		}
	}
}

// The lowest free region is taken, by small and by big ones.
func TestLowestFreeRegion(t *testing.T) {
	for _, size := range []int{20, 40} {
		x := newRig(t, small())
		x.g = nil
		x.claim(t, api.Old, api.Old, api.Old, api.Old)
		x.h.Free(1)
		x.h.Free(3)
		x.read()
		for _, at := range []int{64, 192, 256} {
			if size == 20 && at == 256 {
				break // two may be Eden
			}
			x.want(t, 0, words(size), api.OK, "bd")
			x.wantAt(t, 0, at)
			x.h.Retire()
			x.read()
		}
	}
}

// Objects about the bounds of what is big, of one and of two regions, and of the greatest size.
func TestSizesAtTheEdges(t *testing.T) {
	for _, k := range []struct {
		size   int
		states []api.RegionState
		tops   []int
		known  int // of how many cards Offs knows
	}{
		{2, []api.RegionState{1}, []int{64}, 0},
		{31, []api.RegionState{1}, []int{64}, 0},
		{32, []api.RegionState{1}, []int{64}, 0},
		{33, []api.RegionState{4}, []int{33}, 5},
		{40, []api.RegionState{4}, []int{40}, 5},
		{41, []api.RegionState{4}, []int{41}, 6},
		{63, []api.RegionState{4}, []int{63}, 8},
		{64, []api.RegionState{4}, []int{64}, 8},
		{65, []api.RegionState{4, 5}, []int{64, 65}, 9},
		{128, []api.RegionState{4, 5}, []int{64, 128}, 16},
		{129, []api.RegionState{4, 5, 5}, []int{64, 128, 129}, 17},
		{319, []api.RegionState{4, 5, 5, 5, 5}, []int{64, 128, 192, 256, 319}, 40},
		{320, []api.RegionState{4, 5, 5, 5, 5}, []int{64, 128, 192, 256, 320}, 40},
	} {
		for _, refs := range []int{0, 1, k.size - 1} {
			x := newRig(t, small())
			x.scribble(new(dice(k.size)))
			x.want(t, 0, alloc(refs, k.size-1-refs), api.OK, "bd")
			x.wantAt(t, 0, 0)
			for r := range 6 {
				s, top := api.Free, r*64
				if r < len(k.states) {
					s, top = k.states[r], k.tops[r]
				}
				if x.h.Regions.State(r) != s || x.h.Regions.Top(r) != top {
					t.Fatalf("%d words: region %d: %d, %d", k.size, r, x.h.Regions.State(r), x.h.Regions.Top(r))
				}
			}
			for card := range 48 {
				if at, e := x.h.Offs.First(card); at != 0 || (e == api.OK) != (card < k.known) {
					t.Fatalf("%d words: card %d: %d, %v", k.size, card, at, e)
				}
			}
			wantNoughts(t, x, k.size, refs)
		}
	}
	x := newRig(t, small())
	for _, o := range []api.Op{alloc(0, 320), alloc(320, 0), alloc(319, 1), alloc(1, 319), alloc(160, 160), alloc(0, 0), alloc(0, -1), alloc(-1, 0), alloc(-1, 2), alloc(2, -1), alloc(-1, -1), alloc(321, -1), alloc(-1, 321)} {
		x.want(t, 0, o, api.ErrSize, "d")
	}
	x.want(t, 0, alloc(160, 159), api.OK, "bd")
}

// wantNoughts reads the only object by a thread's operations: all its fields are nil and 0.
func wantNoughts(t *testing.T, x *rig, size, refs int) {
	t.Helper()
	for field := range size - refs {
		code, steps := api.OK, "bd"
		if field == size-1-refs {
			code, steps = api.ErrField, "d"
		}
		if a := x.want(t, 0, read(0, field), code, steps); a.Word != 0 {
			t.Fatal(field, a)
		}
	}
	for field := range refs {
		x.must(t, 0, load(0, field))
		if a := x.want(t, 0, isNil(1), api.OK, "d"); !a.Bit {
			t.Fatal(field, a)
		}
		x.must(t, 0, pop)
	}
	x.want(t, 0, load(0, refs), api.ErrField, "d")
	x.wantSound(t)
}

// A big one takes nothing of the buffer, and asks for nothing of Young.
func TestBigOnesAreBesideTheBuffer(t *testing.T) {
	c := small()
	c.Young = 1
	x := newRig(t, c)
	x.must(t, 0, words(10), words(33))
	x.wantAt(t, 0, 64)
	x.wantLeft(t, 0, 10, 64)
	x.must(t, 0, words(20))
	x.wantAt(t, 0, 10)
	x.want(t, 1, words(2), 0, "w")
	x.must(t, 0, words(100))
	x.wantAt(t, 0, 128)
	x.wantLeft(t, 0, 30, 64)
	x.wantSound(t)
	x.must(t, 0, pop)
	x.want(t, 0, words(200), 0, "w")
	x.wantLeft(t, 0, 30, 64)
	x.fail(t, 0)
	x.must(t, 0, words(34))
	x.wantAt(t, 0, 256)
	if _, steps := x.rest(t, 1); steps != "w" {
		t.Fatal(steps)
	}
	x.wantSound(t)
}

// Regions are free, but not side by side: a big one of two wants, one of one region doesn't.
func TestRunThatThereIsNot(t *testing.T) {
	x := newRig(t, small())
	x.g = nil
	x.claim(t, api.Old, api.Old, api.Old, api.Old, api.Old, api.Old)
	for _, r := range []int{0, 2, 4} {
		x.h.Free(r)
	}
	x.read()
	x.want(t, 0, words(65), 0, "w")
	x.want(t, 1, words(64), api.OK, "bd")
	x.wantAt(t, 1, 0)
	if _, steps := x.rest(t, 0); steps != "w" {
		t.Fatal(steps)
	}
	x.h.Free(5)
	x.read()
	if a, steps := x.rest(t, 0); a != (api.Answer{}) || steps != "bd" {
		t.Fatal(a, steps)
	}
	x.wantAt(t, 0, 256)
	x.want(t, 0, words(2), api.OK, "bd")
	x.wantAt(t, 0, 128)
	x.wantSound(t)
}

// The lowest run is taken that is long enough, and of a longer one its first regions.
func TestLowestRun(t *testing.T) {
	c := small()
	c.Regions, c.Roots = 12, 8
	for size, at := range map[int]int{40: 64, 70: 192, 130: 192, 200: 448, 260: 448} {
		x := newRig(t, c)
		x.g = nil
		x.claim(t, slices.Repeat([]api.RegionState{api.Old}, 12)...)
		for _, r := range []int{1, 3, 4, 5, 7, 8, 9, 10, 11} {
			x.h.Free(r)
		}
		x.read()
		x.want(t, 0, words(size), api.OK, "bd")
		x.wantAt(t, 0, at)
	}
}

// An operation that wants tries anew with each step, and may be failed or answered at any time.
func TestWantAndTryAnew(t *testing.T) {
	for tries := range 4 {
		for _, size := range []int{3, 32, 100} {
			x := newRig(t, api.Config{Shift: 6, Regions: 3, CardShift: 3, Threads: 1, Roots: 4, Young: 2})
			x.must(t, 0, words(100), pop)
			x.must(t, 0, words(32), words(32), pop, pop)
			x.start(t, 0, words(size))
			for range tries + 1 {
				if r := x.step(t, 0); told(r) != "w" || r.Done || !r.Busy || r.Answer != (api.Answer{}) || len(r.Left) != 0 {
					t.Fatalf("%+v", r)
				}
				if x.m[0].Idle() || x.m[0].Start(poll) != api.ErrShape {
					t.Fatal("what wants is over")
				}
				x.wantSound(t)
			}
			x.h.Free(0)
			x.h.Free(1)
			x.scribble(new(dice(7)))
			if told(x.step(t, 0)) != "b" {
				t.Fatal("it has no room")
			}
			if a, e := x.fail(t, 0); a != (api.Answer{}) || e != api.ErrShape {
				t.Fatal(a, e)
			}
			if r := x.step(t, 0); r.Answer != (api.Answer{Op: 6}) || told(r) != "d" {
				t.Fatalf("%+v", r)
			}
			x.wantAt(t, 0, 0)
			x.wantSound(t)
		}
	}
}

// P15.3

// Fail is refused wherever the last step didn't want.
func TestFailOfWhatDoesNotWant(t *testing.T) {
	for _, marking := range []bool{false, true} {
		for _, k := range each {
			x := stage(t, small())
			x.marking(marking)
			for i := range 2 {
				if a, e := x.fail(t, i); a != (api.Answer{}) || e != api.ErrShape {
					t.Fatalf("Fail of an idle one: %+v, %v", a, e)
				}
			}
			x.start(t, 0, k.o)
			for n := 0; n < 5; n++ {
				if x.p.turns[0].wants {
					break
				}
				for i := range 2 {
					if a, e := x.fail(t, i); a != (api.Answer{}) || e != api.ErrShape {
						t.Fatalf("%+v: Fail behind %d steps: %+v, %v", k.o, n, a, e)
					}
				}
				x.step(t, 0)
			}
		}
	}
}

// full is a heap in which thread 0 holds all regions but the last one by one object, and no thread may claim any more.
func full(t *testing.T) *rig {
	t.Helper()
	c := small()
	c.Young = 1
	x := newRig(t, c)
	x.must(t, 0, words(320), words(32), words(32), write(0, 318, 5))
	x.wantSound(t)
	return x
}

// Fail answers once, and nothing is changed but that the operation is over; what is started then doesn't want yet.
func TestFailOnceAndTwice(t *testing.T) {
	for _, o := range []api.Op{words(2), words(32), words(33), words(64), words(65), words(320), alloc(7, 1)} {
		x := full(t)
		x.want(t, 0, o, 0, "w")
		x.want(t, 1, o, 0, "w")
		if a, e := x.fail(t, 1); a != (api.Answer{Thread: 1, Code: api.ErrMemory}) || e != api.OK {
			t.Fatalf("%+v, %v", a, e)
		}
		for range 2 {
			if a, e := x.fail(t, 1); a != (api.Answer{}) || e != api.ErrShape {
				t.Fatalf("%+v, %v", a, e)
			}
		}
		if !x.m[1].Idle() || x.m[0].Idle() || !isZero(x.step(t, 1)) {
			t.Fatal("a mutator isn't idle behind Fail, or the other one is")
		}
		x.start(t, 1, o)
		if a, e := x.fail(t, 1); a != (api.Answer{}) || e != api.ErrShape {
			t.Fatalf("what was just started fails: %+v, %v", a, e)
		}
		if _, steps := x.rest(t, 1); steps != "w" {
			t.Fatal(steps)
		}
		if a, e := x.fail(t, 0); a != (api.Answer{Op: 4, Code: api.ErrMemory}) || e != api.OK {
			t.Fatalf("%+v, %v", a, e)
		}
		if a, e := x.fail(t, 1); a != (api.Answer{Thread: 1, Op: 1, Code: api.ErrMemory}) || e != api.OK {
			t.Fatalf("%+v, %v", a, e)
		}
		if a := x.want(t, 1, pop, api.ErrEmpty, "d"); a.Op != 2 {
			t.Fatal(a)
		}
		if a := x.want(t, 0, read(0, 318), api.OK, "bd"); a.Op != 5 || a.Word != 5 {
			t.Fatal(a)
		}
		x.wantSound(t)
	}
}

// Full stacks

// A load looks at its object and at its field; only then there is no room for the handle.
func TestFullStackAtTheFirstStep(t *testing.T) {
	x := stage(t, small())
	fill(t, x)
	x.want(t, 0, load(0, 1), api.ErrStack, "bd")
	x.want(t, 0, alloc(1, 1), api.ErrStack, "d")
	x.want(t, 0, alloc(0, 100), api.ErrStack, "d")
	x.want(t, 0, null, api.ErrStack, "d")
	x.want(t, 0, dup(0), api.ErrStack, "d")
	x.want(t, 0, send(0, 0), api.ErrStack, "d")
	x.want(t, 1, send(0, 0), api.ErrStack, "d")
	x.want(t, 0, read(0, 1), api.OK, "bd")
	x.want(t, 0, store(0, 1, 1), api.OK, "bd")
	x.wantSound(t)
}

// Another thread's send fills the stack between two steps.
func TestFullStackBetweenTwoSteps(t *testing.T) {
	for _, o := range []api.Op{load(0, 1), load(0, 0), alloc(3, 4), alloc(0, 30), alloc(60, 60)} {
		x := stage(t, small())
		x.start(t, 0, o)
		x.step(t, 0)
		x.want(t, 1, send(1, 0), api.OK, "d")
		x.want(t, 1, send(1, 0), api.ErrStack, "d")
		if r := x.step(t, 0); told(r) != "d" || r.Answer != (api.Answer{Op: 6, Code: api.ErrStack}) {
			t.Fatalf("%+v: %+v", o, r)
		}
		x.wantAt(t, 0, 128)
		x.wantSound(t)
	}
}

// The object whose handle has no room any more is made all the same: the rows are whole.
func TestObjectWithoutAHandleIsMade(t *testing.T) {
	x := stage(t, small())
	x.scribble(new(dice(3)))
	x.start(t, 0, alloc(10, 20))
	x.step(t, 0)
	x.must(t, 1, send(0, 0))
	x.step(t, 0)
	x.wantTop(t, 0, 64, 0, 5)
	if h, e := x.h.Object(6); h != (api.Header{Kind: api.HeadObject, Size: 31, Ptrs: 10}) || e != api.OK {
		t.Fatal(h, e)
	}
	x.must(t, 0, pop)
	x.start(t, 0, alloc(1, 100))
	x.step(t, 0)
	x.must(t, 1, send(0, 0))
	x.step(t, 0)
	x.wantTop(t, 3, 256, 192)
	if at, e := x.h.Offs.First(36); at != 192 || e != api.OK {
		t.Fatal(at, e)
	}
	x.wantSound(t)
}

// A stack that was filled while an operation wanted: the step that tries anew answers, whether there is room for the object or not.
func TestFullStackOfWhatWants(t *testing.T) {
	for _, o := range []api.Op{words(3), words(32), words(130)} {
		for _, room := range []bool{false, true} {
			x := stage(t, small())
			x.claim(t, api.Old, api.Old, api.Old)
			x.read()
			x.must(t, 0, words(30), pop)
			x.want(t, 0, words(31), 0, "w")
			x.fail(t, 0)
			x.want(t, 0, o, 0, "w")
			x.want(t, 1, send(1, 0), api.OK, "d")
			if room {
				x.h.Regions.Turn(0, api.Survivor)
				for r := 3; r < 6; r++ {
					x.h.Free(r)
				}
				x.read()
			}
			if a, steps := x.rest(t, 0); a.Code != api.ErrStack || steps != "d" {
				t.Fatalf("%+v, room %v: %+v, steps %s", o, room, a, steps)
			}
			if a, e := x.fail(t, 0); a != (api.Answer{}) || e != api.ErrShape {
				t.Fatal(a, e)
			}
		}
	}
}

// The greatest heaps: an object of the greatest size, in one region and in many, to the last word.
func TestTheGreatestObjects(t *testing.T) {
	for _, c := range []api.Config{
		{Shift: 20, Regions: 4, CardShift: 20, Threads: 1, Roots: 4, Young: 1},
		{Shift: 6, Regions: 65536, CardShift: 6, Threads: 1, Roots: 4, Young: 1},
		{Shift: 20, Regions: 2, CardShift: 3, Threads: 1, Roots: 4, Young: 2},
		{Shift: 19, Regions: 2, CardShift: 9, Threads: 1, Roots: 4, Young: 2},
	} {
		x := newRig(t, c)
		x.g = nil
		most := x.p.greatest()
		x.want(t, 0, alloc(most, 0), api.ErrSize, "d")
		x.want(t, 0, alloc(0, most), api.ErrSize, "d")
		x.want(t, 0, alloc(1, most-2), api.OK, "bd")
		x.wantAt(t, 0, 0)
		x.want(t, 0, alloc(1, 1), api.OK, "bd")
		x.want(t, 0, write(0, most-3, 7), api.OK, "bd")
		if a := x.want(t, 0, read(0, most-3), api.OK, "bd"); a.Word != 7 {
			t.Fatal(a)
		}
		x.want(t, 0, read(0, most-2), api.ErrField, "d")
		x.want(t, 0, store(0, 0, 1), api.OK, "bD-")
		x.wantSound(t)
	}
}

// Half of a great region fits into a buffer twice; one word more is big.
func TestGreatRegions(t *testing.T) {
	x := newRig(t, api.Config{Shift: 20, Regions: 4, CardShift: 10, Threads: 1, Roots: 8, Young: 1})
	x.g = nil
	x.want(t, 0, words(1<<19), api.OK, "bd")
	x.want(t, 0, words(1<<19), api.OK, "bd")
	x.wantAt(t, 0, 1<<19)
	x.want(t, 0, words(1<<19+1), api.OK, "bd")
	x.wantAt(t, 0, 1<<20)
	x.want(t, 0, words(1<<19), 0, "w")
	x.wantSound(t)
}

// The examples of the chapter, in a heap of one thread.
func TestExamples(t *testing.T) {
	x := newRig(t, api.Config{Shift: 6, Regions: 4, CardShift: 3, Threads: 1, Roots: 4, Young: 1})
	x.want(t, 0, alloc(1, 1), api.OK, "bd")
	x.want(t, 0, store(0, 0, 0), api.OK, "bd")
	x.want(t, 0, alloc(0, 40), api.OK, "bd")
	if x.h.Regions.State(1) != api.HumStart || x.h.Regions.Top(1) != 105 {
		t.Fatal(x.h.Regions.State(1), x.h.Regions.Top(1))
	}
	if a := x.want(t, 0, read(0, 0), api.OK, "bd"); a != (api.Answer{Op: 3}) {
		t.Fatal(a)
	}
	if a := x.want(t, 0, read(9, 0), api.ErrHandle, "d"); a != (api.Answer{Op: 4, Code: 10}) {
		t.Fatal(a)
	}
	x.wantSound(t)
}
