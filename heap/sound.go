package heap

import (
	"gleaner/api"
	"gleaner/parse"
)

// objects are those of all rows: their addresses, rising, and each by the reference that leads to it.
type objects struct {
	list  []int
	known map[api.Ref]struct{}
}

// tour has objects by their references in the order in which they were come to, the numbers from 1 on.
type tour struct {
	list    []api.Ref
	numbers map[api.Ref]uint64
}

// Check tells whether the heap is sound. ErrNil, ErrBroken.
func (h *Heap) Check() api.Errno {
	if h == nil {
		return api.ErrNil
	}
	all, e := h.objects()
	if e != api.OK {
		return e
	}
	for _, at := range all.list {
		if !all.has(h.references(at)) {
			return api.ErrBroken
		}
	}
	for _, s := range h.Roots {
		if !all.has(s.List()) {
			return api.ErrBroken
		}
	}
	return api.OK
}

// Shape gives the shape of the graph of the handles and objects. ErrNil, ErrBroken.
func (h *Heap) Shape() ([]uint64, api.Errno) {
	if e := h.Check(); e != api.OK {
		return nil, e
	}
	t := &tour{numbers: map[api.Ref]uint64{}}
	var shape []uint64
	for _, s := range h.Roots {
		shape = append(shape, uint64(s.Len()))
		shape = t.tell(shape, s.List())
	}
	// The list grows while it is gone through, by what the objects lead to.
	for i := 0; i < len(t.list); i++ {
		shape = h.describe(shape, t, t.list[i])
	}
	return shape, api.OK
}

// Lost gives the addresses, rising, of the references into homes, from old and big regions that are none, that no set would tell.
func (h *Heap) Lost(homes []int) []int {
	if h.Check() != api.OK {
		return nil
	}
	taken := h.taken(homes)
	var lost []int
	for r := range h.Geom.Regions {
		s := h.Regions.State(r)
		if _, home := taken[r]; home || s != api.Old && s != api.HumStart {
			continue
		}
		row, _ := h.Row(r)
		for _, at := range row {
			lost = h.listLost(lost, at, taken)
		}
	}
	return lost
}

// objects goes through all rows. ErrBroken.
func (h *Heap) objects() (objects, api.Errno) {
	all := objects{known: map[api.Ref]struct{}{}}
	for r := range h.Geom.Regions {
		row, e := h.Row(r)
		if e != api.OK {
			return objects{}, e
		}
		for _, at := range row {
			// What isn't an object in a row is a filler.
			if _, e := h.Object(reference(at)); e == api.OK {
				all.list = append(all.list, at)
				all.known[reference(at)] = struct{}{}
			}
		}
	}
	return all, api.OK
}

// has tells whether each reference is nil or leads to one of the objects.
func (o objects) has(refs []api.Ref) bool {
	for _, r := range refs {
		if _, is := o.known[r]; r != 0 && !is {
			return false
		}
	}
	return true
}

// references gives those of the object at an address.
func (h *Heap) references(at int) []api.Ref {
	fields, _ := parse.Fields(h.Arena, at)
	refs := make([]api.Ref, len(fields))
	for i, field := range fields {
		refs[i] = api.Ref(h.word(field))
	}
	return refs
}

// word is that at an address in a row, where there is one.
func (h *Heap) word(at int) uint64 {
	word, _ := h.Arena.Load(at)
	return word
}

// tell puts the numbers of what references lead to behind a shape's numbers.
func (t *tour) tell(shape []uint64, refs []api.Ref) []uint64 {
	for _, r := range refs {
		shape = append(shape, t.number(r))
	}
	return shape
}

// number is an object's number, a new one if it wasn't come to till now; 0 of nil.
func (t *tour) number(r api.Ref) uint64 {
	if r == 0 {
		return 0
	}
	if n := t.numbers[r]; n != 0 {
		return n
	}
	t.list = append(t.list, r)
	n := uint64(len(t.list))
	t.numbers[r] = n
	return n
}

// describe puts what an object is made of behind a shape's numbers.
func (h *Heap) describe(shape []uint64, t *tour, r api.Ref) []uint64 {
	x, _ := h.Object(r)
	at := address(r)
	data, behind := at+1+x.Ptrs, at+x.Size
	shape = append(shape, uint64(x.Ptrs), uint64(behind-data))
	shape = t.tell(shape, h.references(at))
	for ; data < behind; data++ {
		shape = append(shape, h.word(data))
	}
	return shape
}

// taken is the homes, and of each region of a big object among them the one in which that object begins.
func (h *Heap) taken(homes []int) map[int]struct{} {
	taken := map[int]struct{}{}
	for _, r := range homes {
		// Of numbers that are no region one is what layer 2 answers of nil: it must not be taken for a home.
		if _, e := h.Geom.Base(r); e == api.OK {
			taken[r] = struct{}{}
		}
	}
	for _, first := range h.Regions.List(api.HumStart) {
		base, _ := h.Geom.Base(first)
		x, _ := h.Object(reference(base))
		for i := range h.Geom.Span(x.Size) {
			if _, home := taken[first+i]; home {
				taken[first] = struct{}{}
			}
		}
	}
	return taken
}

// listLost puts the lost references of what stands at an address in a row behind others; a filler has none.
func (h *Heap) listLost(lost []int, at int, taken map[int]struct{}) []int {
	fields, _ := parse.Fields(h.Arena, at)
	for _, field := range fields {
		home := h.Geom.Region(address(api.Ref(h.word(field))))
		if _, is := taken[home]; is && !h.Sets.Has(home, h.Geom.Card(field)) {
			lost = append(lost, field)
		}
	}
	return lost
}
