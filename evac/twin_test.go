package evac_test

import (
	"reflect"
	"slices"
	"testing"
	"unsafe"

	"gleaner/api"
	"gleaner/heap"
	"gleaner/queue"
)

// twinOf copies a heap to the last bit, what its tables keep to themselves, too: so that a heap that threads and pauses have made has a twin.
func twinOf(h *heap.Heap) *heap.Heap {
	var twin *heap.Heap
	copyInto(reflect.ValueOf(&twin).Elem(), reflect.ValueOf(&h).Elem())
	return twin
}

func copyInto(to, from reflect.Value) {
	switch from.Kind() {
	case reflect.Pointer:
		if !from.IsNil() {
			to.Set(reflect.New(from.Type().Elem()))
			copyInto(to.Elem(), from.Elem())
		}
	case reflect.Struct:
		for i := range from.NumField() {
			copyInto(open(to.Field(i)), open(from.Field(i)))
		}
	case reflect.Slice:
		copySlice(to, from)
	case reflect.Map:
		if from.IsNil() {
			return
		}
		to.Set(reflect.MakeMap(from.Type()))
		for _, key := range from.MapKeys() {
			value, copied := reflect.New(from.Type().Elem()).Elem(), reflect.New(from.Type().Elem()).Elem()
			value.Set(from.MapIndex(key))
			copyInto(copied, value)
			to.SetMapIndex(key, copied)
		}
	default:
		to.Set(from)
	}
}

func copySlice(to, from reflect.Value) {
	if from.IsNil() {
		return
	}
	to.Set(reflect.MakeSlice(from.Type(), from.Len(), from.Len()))
	switch from.Type().Elem().Kind() {
	case reflect.Pointer, reflect.Struct, reflect.Slice, reflect.Map:
		for i := range from.Len() {
			copyInto(to.Index(i), from.Index(i))
		}
	default:
		reflect.Copy(to, from)
	}
}

// open makes a field one that may be read and written.
func open(v reflect.Value) reflect.Value {
	return reflect.NewAt(v.Type(), unsafe.Pointer(v.UnsafeAddr())).Elem()
}

// lists are those of a heap's queue: the common one, then each thread's.
func lists(h *heap.Heap) [][]int {
	var q *queue.Queue
	copyInto(reflect.ValueOf(&q).Elem(), reflect.ValueOf(&h.Queue).Elem())
	var all [][]int
	take := func() []int {
		var list []int
		for q.Len() > 0 {
			card, _ := q.Pop()
			list = append(list, card)
		}
		return list
	}
	all = append(all, take())
	for thread := range h.Roots {
		var list []int
		for more := 3; len(list) == 0; more-- {
			over, _ := q.Push(thread, 0)
			if list = append(take(), over...); len(list) > 0 {
				all = append(all, list[:more])
			}
		}
	}
	return all
}

// same tells whether a heap is what its twin is, but for how often words were looked at.
func same(h, twin *heap.Heap) bool {
	one, other := *h, *twin
	one.Arena, other.Arena, one.Queue, other.Queue = nil, nil, nil, nil
	if !reflect.DeepEqual(one, other) {
		return false
	}
	for at := range h.Geom.Words {
		w, _ := h.Arena.Load(at)
		if v, _ := twin.Arena.Load(at); v != w {
			return false
		}
	}
	return slices.EqualFunc(lists(h), lists(twin), slices.Equal)
}

// wantTwin asks for a heap of which all tables tell what its twin's do. Where a set has become coarse, which of the sources did hangs on an order that is free: then only that is asked for which must be remembered.
func wantTwin(t *testing.T, h, twin *heap.Heap, must [][2]int) {
	t.Helper()
	for r := range h.Geom.Regions {
		s, top, tams := h.Regions.State(r), h.Regions.Top(r), h.Regions.Tams(r)
		if s != twin.Regions.State(r) || top != twin.Regions.Top(r) || tams != twin.Regions.Tams(r) {
			t.Fatalf("region %d is %d, Top %d, Tams %d, not %d, %d, %d", r, s, top, tams, twin.Regions.State(r), twin.Regions.Top(r), twin.Regions.Tams(r))
		}
		l, want := h.Sets.Cards(r), twin.Sets.Cards(r)
		if !slices.Equal(l, want) && !isCoarse(h, r) {
			t.Fatalf("region %d remembers %v, not %v", r, l, want)
		}
	}
	for _, s := range must {
		if !h.Sets.Has(s[0], s[1]) {
			t.Fatalf("region %d doesn't remember the card %d", s[0], s[1])
		}
	}
	for card := range h.Geom.Cards {
		at, e := h.Offs.First(card)
		if v, w := twin.Offs.First(card); at != v || e != w {
			t.Fatalf("the card %d: %d, %v, not %d, %v", card, at, e, v, w)
		}
	}
	if l, want := h.Cards.List(), twin.Cards.List(); !slices.Equal(l, want) {
		t.Fatalf("dirty: %v, not %v", l, want)
	}
	if l, want := h.Marks.List(), twin.Marks.List(); !slices.Equal(l, want) {
		t.Fatalf("marked: %v, not %v", l, want)
	}
	if h.Queue.Waiting() != 0 {
		t.Fatalf("there wait %v", lists(h))
	}
	for i, s := range h.Roots {
		if l, want := s.List(), twin.Roots[i].List(); !slices.Equal(l, want) || s.Room() != twin.Roots[i].Room() {
			t.Fatalf("thread %d has the handles %v, not %v", i, l, want)
		}
		if first, behind := h.Buffers[i].Rest(); first != 0 || behind != 0 {
			t.Fatalf("thread %d has the words %d to %d left", i, first, behind)
		}
	}
}

// isCoarse tells whether a region's set remembers a source coarsely.
func isCoarse(h *heap.Heap, r int) bool {
	for source := range h.Geom.Regions {
		if h.Sets.Way(r, source) == 3 {
			return true
		}
	}
	return false
}

// wantRows asks for rows that are a twin's: of objects each word, of fillers the header.
func wantRows(t *testing.T, h, twin *heap.Heap) {
	t.Helper()
	for r := range h.Geom.Regions {
		row, e := h.Row(r)
		if want, f := twin.Row(r); !slices.Equal(row, want) || e != f {
			t.Fatalf("Row(%d): %v, %v, not %v, %v", r, row, e, want, f)
		}
		for _, at := range row {
			w, _ := h.Arena.Load(at)
			x, _ := header(w)
			words := x.Size
			if x.Kind == api.HeadFiller {
				words = 1
			}
			for k := range words {
				w, _ := h.Arena.Load(at + k)
				if v, _ := twin.Arena.Load(at + k); v != w {
					t.Fatalf("the word %d of what is at %d: %d, not %d", k, at, w, v)
				}
			}
		}
	}
}
