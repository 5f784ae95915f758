package full

import (
	"slices"

	"gleaner/api"
	"gleaner/heap"
	"gleaner/parse"
)

// plan is what a compaction will come to.
type plan struct {
	heap    *heap.Heap
	goes    map[api.Ref]api.Ref // what each reference to an object that is left will be
	left    []object            // all that are left, rising by where they will stand
	words   int                 // so many they have
	regions int                 // so many will be used, from 0 on
}

// object is one that is left.
type object struct {
	from, to int // where it stands, and where it will
	header   api.Header
	alone    bool // it takes regions of its own
}

// newPlan gives the plan of a compaction. Nothing of the heap is changed by it. ErrNil, ErrBroken.
func newPlan(h *heap.Heap) (*plan, api.Errno) {
	if e := h.Check(); e != api.OK {
		return nil, e
	}
	p := &plan{heap: h, goes: map[api.Ref]api.Ref{}}
	p.reachAll()
	p.place(p.isBig)
	if p.regions > h.Geom.Regions {
		// That may be only where big objects stand in rows with others, as no layer puts them: such ones share regions again, since there is room for all then.
		p.place(p.isBigAlone)
	}
	slices.SortFunc(p.left, func(one, other object) int { return one.to - other.to })
	return p, api.OK
}

// reachAll lists what can be come to, rising by where it stands.
func (p *plan) reachAll() {
	for _, s := range p.heap.Roots {
		for _, r := range s.List() {
			p.reach(r)
		}
	}
	// The list grows while it is gone through, by what the objects lead to.
	for i := 0; i < len(p.left); i++ {
		fields, _ := parse.Fields(p.heap.Arena, p.left[i].from)
		for _, field := range fields {
			p.reach(p.reference(field))
		}
	}
	slices.SortFunc(p.left, func(one, other object) int { return one.from - other.from })
}

// reach lists the object that a reference leads to, if that isn't done yet.
func (p *plan) reach(r api.Ref) {
	if _, done := p.goes[r]; done || r == 0 {
		return
	}
	// Where it goes is told when all are known.
	p.goes[r] = 0
	x, _ := p.heap.Object(r)
	p.left = append(p.left, object{from: address(r), header: x})
	p.words += x.Size
}

// place finds where everything goes: first what takes regions of its own, then all else, of both what stands lower ahead.
func (p *plan) place(isAlone func(o object) bool) {
	g := p.heap.Geom
	p.regions = 0
	for i := range p.left {
		o := &p.left[i]
		if o.alone = isAlone(*o); o.alone {
			p.send(o, p.regions*g.RegionWords)
			p.regions += g.Span(o.header.Size)
		}
	}
	// From there on there is room in the last region that is shared: none at first.
	next := p.regions * g.RegionWords
	for i := range p.left {
		o := &p.left[i]
		if o.alone {
			continue
		}
		if end := p.regions * g.RegionWords; next+o.header.Size > end {
			next = end
			p.regions++
		}
		p.send(o, next)
		next += o.header.Size
	}
}

// send has an object go to an address.
func (p *plan) send(o *object, to int) {
	o.to = to
	p.goes[reference(o.from)] = reference(to)
}

// isBig tells whether an object has more than half of a region's words.
func (p *plan) isBig(o object) bool {
	return p.heap.Geom.Big(o.header.Size)
}

// isBigAlone tells whether an object is big and has regions of its own already.
func (p *plan) isBigAlone(o object) bool {
	return p.isBig(o) && p.heap.Regions.State(p.heap.Geom.Region(o.from)) == api.HumStart
}

// reference is that at an address.
func (p *plan) reference(field int) api.Ref {
	word, _ := p.heap.Arena.Load(field)
	return api.Ref(word)
}
