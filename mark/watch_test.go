package mark_test

import (
	"slices"
	"testing"

	"gleaner/api"
	"gleaner/heap"
	"gleaner/mark"
)

// watch is a cycle of a heap, held against what the chapter says of each of its calls, done to a twin of the heap.
type watch struct {
	h, twin   *heap.Heap
	c         *mark.Cycle
	active    bool
	at        [][]int // of each worker the references that are left of its object; the last one is Finish's
	stack     []int
	waits     []uint64
	overflown bool
	anew      bool // are marked objects gone to anew?
	next      int  // the first one that is
	steps     int  // that were true since the cycle began
	logged    int
}

// newCycle gives a cycle, which isn't active.
func newCycle(t *testing.T, h *heap.Heap, workers int) *mark.Cycle {
	t.Helper()
	c, e := mark.New(h, workers)
	if c == nil || e != api.OK || c.Active() {
		t.Fatalf("New of %d workers: %v, %v", workers, c, e)
	}
	return c
}

// newWatch lays a heap and its twin, with a cycle of so many workers.
func newWatch(t *testing.T, m *model, workers int) *watch {
	t.Helper()
	x := &watch{h: m.lay(t), twin: m.lay(t)}
	x.c = newCycle(t, x.h, workers)
	x.rest(workers)
	return x
}

// rest has nothing be left to do.
func (x *watch) rest(workers int) {
	x.active, x.at, x.stack, x.waits, x.overflown, x.anew = false, make([][]int, workers+1), nil, nil, false, false
}

// both does something to the heap and to its twin.
func (x *watch) both(do func(h *heap.Heap)) {
	do(x.h)
	do(x.twin)
}

func (x *watch) store(at int, w uint64) {
	x.both(func(h *heap.Heap) { h.Arena.Store(at, w) })
}

// read is the model of what a heap is now.
func read(h *heap.Heap) *model {
	m := blank(h.Config)
	for at := range m.words {
		m.words[at], _ = h.Arena.Load(at)
	}
	for r := range m.states {
		m.states[r], m.tops[r], m.tams[r] = h.Regions.State(r), h.Regions.Top(r), h.Regions.Tams(r)
	}
	for i := range m.buffers {
		first, behind := h.Buffers[i].Rest()
		m.buffers[i] = piece{first, 0, behind}
		for _, r := range h.Roots[i].List() {
			m.handles[i] = append(m.handles[i], uint64(r))
		}
	}
	return m
}

// begin begins a cycle, and asks that it comes to what the chapter says.
func (x *watch) begin(t *testing.T) api.Errno {
	t.Helper()
	e := x.c.Begin()
	if want := x.begun(); e != want {
		t.Fatalf("Begin: %v, not %v", e, want)
	}
	x.want(t, "Begin")
	return e
}

// begun does to the twin what Begin must do.
func (x *watch) begun() api.Errno {
	if x.active {
		return api.ErrShape
	}
	m := read(x.twin)
	for r := range m.states {
		if _, is := m.whole(r); !is {
			return api.ErrBroken
		}
	}
	x.rest(len(x.at) - 1)
	x.active, x.steps, x.logged = true, 0, 0
	for at := range m.words {
		x.twin.Marks.Drop(at)
	}
	for r, s := range m.states {
		if s == api.Old || s == api.HumStart {
			x.twin.Regions.Mark(r)
		}
	}
	for _, l := range m.handles {
		for _, w := range l {
			x.grey(w)
		}
	}
	for _, at := range m.objects(api.Eden, api.Survivor) {
		for _, w := range m.fields(at) {
			x.grey(w)
		}
	}
	return api.OK
}

// grey does to the twin what it is to grey a reference.
func (x *watch) grey(w uint64) {
	if w == 0 || w > uint64(x.twin.Geom.Words) {
		return
	}
	at := int(w) - 1
	r := at / x.twin.Geom.RegionWords
	if s := x.twin.Regions.State(r); s != api.Old && s != api.HumStart || at >= x.twin.Regions.Tams(r) || x.twin.Marks.Has(at) {
		return
	}
	x.twin.Marks.Put(at)
	if len(x.stack) < x.twin.Config.Stack {
		x.stack = append(x.stack, at)
	} else {
		x.overflown = true
	}
}

// enter has a worker be at the object at an address, if there is one.
func (x *watch) enter(worker, at int) {
	x.at[worker] = nil
	w, _ := x.twin.Arena.Load(at)
	h, is := header(w)
	if !is || h.Kind != api.HeadObject || at+h.Size > x.twin.Geom.Words {
		return
	}
	for k := range h.Ptrs {
		x.at[worker] = append(x.at[worker], at+1+k)
	}
}

// do does to the twin what a step must do: was there anything to do, and how many words are looked at?
func (x *watch) do(worker int) (bool, int) {
	if fields := x.at[worker]; len(fields) > 0 {
		w, _ := x.twin.Arena.Load(fields[0])
		x.at[worker] = fields[1:]
		x.grey(w)
		return true, 1
	}
	if n := len(x.stack); n > 0 {
		at := x.stack[n-1]
		x.stack = x.stack[:n-1]
		x.enter(worker, at)
		return true, 1
	}
	if len(x.waits) > 0 {
		w := x.waits[0]
		x.waits = x.waits[1:]
		x.grey(w)
		return true, 0
	}
	for x.anew || x.overflown {
		if !x.anew {
			x.anew, x.overflown, x.next = true, false, 0
		}
		for at := x.next; at < x.twin.Geom.Words; at++ {
			if x.twin.Marks.Has(at) {
				x.next = at + 1
				x.enter(worker, at)
				return true, 1
			}
		}
		x.anew = false
	}
	return false, 0
}

// step does a worker's step, and asks that it comes to what the chapter says.
func (x *watch) step(t *testing.T, worker int) bool {
	t.Helper()
	want, looks := false, 0
	if x.active && worker >= 0 && worker < len(x.at)-1 {
		want, looks = x.do(worker)
	}
	ahead := x.h.Arena.Accesses()
	did := x.c.Step(worker)
	if looked := x.h.Arena.Accesses() - ahead; did != want || looked != looks || looked > 1 {
		t.Fatalf("a step of the worker %d: %v, %d words looked at, not %v, %d", worker, did, looked, want, looks)
	}
	if did {
		x.steps++
	}
	if l, w := x.h.Marks.List(), x.twin.Marks.List(); !slices.Equal(l, w) {
		t.Fatalf("a step of the worker %d: marked: %v, not %v", worker, l, w)
	}
	return did
}

// wantBound asks that no more steps were true than there may be.
func (x *watch) wantBound(t *testing.T) {
	t.Helper()
	marked := x.h.Marks.Count(0, x.h.Geom.Words)
	if most := (x.h.Geom.Words + x.logged + 2) * (marked + 2); x.steps > most {
		t.Fatalf("%d steps, of at most %d", x.steps, most)
	}
}

func (x *watch) log(t *testing.T, l ...uint64) {
	t.Helper()
	refs := make([]api.Ref, 0, len(l)+3)
	for _, w := range l {
		refs = append(refs, api.Ref(w))
	}
	spare := refs[:cap(refs)]
	spare[len(l)] = 99
	e, want := x.c.Log(refs), api.ErrShape
	if x.active {
		want = api.OK
		x.waits = append(x.waits, l...)
		x.logged += len(l)
	}
	if e != want {
		t.Fatalf("Log(%v): %v, not %v", l, e, want)
	}
	for i, w := range l {
		if refs[i] != api.Ref(w) {
			t.Fatalf("Log changed %v to %v", l, refs)
		}
		refs[i] = 1 // what is handed in isn't kept
	}
	if spare[len(l)] != 99 {
		t.Fatal("Log changed the spare room")
	}
}

// finished does to the twin what Finish must do.
func (x *watch) finished() api.Errno {
	if !x.active {
		return api.ErrShape
	}
	for worker := range x.at {
		for len(x.at[worker]) > 0 {
			x.do(worker)
		}
	}
	for more := true; more; {
		more, _ = x.do(len(x.at) - 1)
	}
	return api.OK
}

func (x *watch) finish(t *testing.T) {
	t.Helper()
	e := x.c.Finish()
	if want := x.finished(); e != want {
		t.Fatalf("Finish: %v, not %v", e, want)
	}
	x.want(t, "Finish")
	for worker := range x.at {
		if x.active && x.c.Step(worker) {
			t.Fatalf("behind Finish there is something to do for the worker %d", worker)
		}
	}
}

// clean cleans, and asks that it comes to what the chapter says.
func (x *watch) clean(t *testing.T) []int {
	t.Helper()
	l, e := x.c.Clean()
	list, want := x.cleaned()
	if !slices.Equal(l, list) || e != want {
		t.Fatalf("Clean: %v, %v, not %v, %v", l, e, list, want)
	}
	x.want(t, "Clean")
	return l
}

// cleaned does to the twin what Clean must do.
func (x *watch) cleaned() ([]int, api.Errno) {
	if e := x.finished(); e != api.OK {
		return nil, e
	}
	m := read(x.twin)
	var freed []int
	for r, s := range m.states {
		at := m.base(r)
		if _, is := m.whole(r); !is {
			continue
		}
		if s == api.Old && x.live(m, r) == 0 {
			freed = append(freed, r)
		}
		if s == api.HumStart && at < m.tams[r] && !x.twin.Marks.Has(at) {
			o, _ := header(m.words[at])
			for k := 0; k*m.region < o.Size; k++ {
				freed = append(freed, r+k)
			}
		}
	}
	for _, r := range freed {
		x.twin.Free(r)
	}
	for _, r := range x.twin.Regions.List(api.Old) {
		x.fill(m, r)
	}
	x.rest(len(x.at) - 1)
	return freed, api.OK
}

// live are the live words of a region.
func (x *watch) live(m *model, r int) int {
	if r < 0 || r >= len(m.states) || m.states[r] != api.Old {
		return 0
	}
	live := m.tops[r] - m.tams[r]
	if row, is := m.whole(r); is {
		for _, at := range row {
			if o, _ := header(m.words[at]); o.Kind == api.HeadObject && x.twin.Marks.Has(at) {
				live += o.Size
			}
		}
	}
	return live
}

// fill makes fillers, in the twin, of a region's objects that aren't marked: each with all that is lost or a filler on both of its sides, to what stays or to the row's ends.
func (x *watch) fill(m *model, r int) {
	row, is := m.whole(r)
	if !is {
		return
	}
	const stays, fills, lost = 0, 1, 2
	kinds := make([]int, len(row))
	for i, at := range row {
		if !m.isObject(at) {
			kinds[i] = fills
		} else if at < m.tams[r] && !x.twin.Marks.Has(at) {
			kinds[i] = lost
		}
	}
	row = append(row, m.end(r))
	for i, k := range kinds {
		if k != lost {
			continue
		}
		from, to := i, i+1
		for from > 0 && kinds[from-1] != stays {
			from--
		}
		for to < len(kinds) && kinds[to] != stays {
			to++
		}
		x.twin.Arena.Store(row[from], filler(row[to]-row[from]))
		x.twin.Offs.Put(row[from], row[to]-row[from])
	}
}

func (x *watch) abort(t *testing.T) {
	t.Helper()
	x.c.Abort()
	x.rest(len(x.at) - 1)
	x.want(t, "Abort")
}

// want asks that the heap is what its twin is, and that the cycle tells of it what it must.
func (x *watch) want(t *testing.T, what string) {
	t.Helper()
	if x.c.Active() != x.active {
		t.Fatalf("%s: active: %v", what, !x.active)
	}
	m := read(x.twin)
	for r := -1; r <= len(m.states); r++ {
		if n, want := x.c.Live(r), x.live(m, r); n != want {
			t.Fatalf("%s: Live(%d): %d, not %d", what, r, n, want)
		}
	}
	wantTwin(t, x.h, x.twin, what)
}

// stepAll does steps of workers in some order till none of them has anything to do.
func (x *watch) stepAll(t *testing.T, d *dice) {
	t.Helper()
	workers := len(x.at) - 1
	for more := workers > 0; more; {
		for range 2 * workers {
			x.step(t, d.below(workers))
		}
		more = false
		for worker := range workers {
			more = x.step(t, worker) || more
		}
	}
	x.wantBound(t)
}
