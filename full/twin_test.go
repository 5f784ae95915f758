package full_test

import (
	"reflect"
	"slices"
	"unsafe"

	"gleaner/heap"
	"gleaner/queue"
)

// twinOf copies a heap to the last bit, what its tables keep to themselves, too: so that a heap that threads and pauses have made has a twin.
func twinOf(h *heap.Heap) *heap.Heap {
	var twin *heap.Heap
	copyInto(reflect.ValueOf(&twin).Elem(), reflect.ValueOf(&h).Elem())
	return twin
}

func copyInto(to, from reflect.Value) {
	switch from.Kind() {
	case reflect.Pointer:
		if !from.IsNil() {
			to.Set(reflect.New(from.Type().Elem()))
			copyInto(to.Elem(), from.Elem())
		}
	case reflect.Struct:
		for i := range from.NumField() {
			copyInto(open(to.Field(i)), open(from.Field(i)))
		}
	case reflect.Slice:
		copySlice(to, from)
	case reflect.Map:
		if from.IsNil() {
			return
		}
		to.Set(reflect.MakeMap(from.Type()))
		for _, key := range from.MapKeys() {
			value, copied := reflect.New(from.Type().Elem()).Elem(), reflect.New(from.Type().Elem()).Elem()
			value.Set(from.MapIndex(key))
			copyInto(copied, value)
			to.SetMapIndex(key, copied)
		}
	default:
		to.Set(from)
	}
}

func copySlice(to, from reflect.Value) {
	if from.IsNil() {
		return
	}
	to.Set(reflect.MakeSlice(from.Type(), from.Len(), from.Len()))
	switch from.Type().Elem().Kind() {
	case reflect.Pointer, reflect.Struct, reflect.Slice, reflect.Map:
		for i := range from.Len() {
			copyInto(to.Index(i), from.Index(i))
		}
	default:
		reflect.Copy(to, from)
	}
}

// open makes a field one that may be read and written.
func open(v reflect.Value) reflect.Value {
	return reflect.NewAt(v.Type(), unsafe.Pointer(v.UnsafeAddr())).Elem()
}

// lists are those of a heap's queue: the common one, then each thread's.
func lists(h *heap.Heap) [][]int {
	var q *queue.Queue
	copyInto(reflect.ValueOf(&q).Elem(), reflect.ValueOf(&h.Queue).Elem())
	var all [][]int
	take := func() []int {
		var list []int
		for q.Len() > 0 {
			card, _ := q.Pop()
			list = append(list, card)
		}
		return list
	}
	all = append(all, take())
	for thread := range h.Roots {
		var list []int
		for more := 3; len(list) == 0; more-- {
			over, _ := q.Push(thread, 0)
			if list = append(take(), over...); len(list) > 0 {
				all = append(all, list[:more])
			}
		}
	}
	return all
}

// same tells whether a heap is what its twin is, but for how often words were looked at.
func same(h, twin *heap.Heap) bool {
	one, other := *h, *twin
	one.Arena, other.Arena, one.Queue, other.Queue = nil, nil, nil, nil
	if !reflect.DeepEqual(one, other) {
		return false
	}
	for at := range h.Geom.Words {
		w, _ := h.Arena.Load(at)
		if v, _ := twin.Arena.Load(at); v != w {
			return false
		}
	}
	return slices.EqualFunc(lists(h), lists(twin), slices.Equal)
}
