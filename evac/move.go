package evac

import (
	"gleaner/api"
	"gleaner/head"
	"gleaner/heap"
	"gleaner/parse"
)

// pause is what one has come to.
type pause struct {
	heap          *heap.Heap
	homes         map[int]int      // of each home how many of its objects are kept
	kept          map[int]struct{} // the objects whose moves failed, by their addresses
	list          []int            // where the objects are now that were reached
	inward        []int            // the references of the outside that lead into homes, by their addresses
	changed       []int            // those of them that lead elsewhere now
	tries         int              // how many moves there were, failed ones too
	old, survivor rooms            // what takes the objects that are moved
	report        Report
}

// begin is a pause in which nothing has moved yet.
func begin(h *heap.Heap, homes []int) *pause {
	p := &pause{heap: h, homes: map[int]int{}, kept: map[int]struct{}{}, survivor: newRooms(api.Survivor, nil)}
	for _, r := range homes {
		p.homes[r] = 0
	}
	// All that is young is a home: so no survivor region is there yet, and the outside is old or big.
	old := p.outside(api.Old)
	p.old = newRooms(api.Old, old)
	p.listInward(old)
	p.listInward(p.outside(api.HumStart))
	return p
}

// outside are the regions of a state that aren't homes, rising.
func (p *pause) outside(s api.RegionState) []int {
	var regions []int
	for _, r := range p.heap.Regions.List(s) {
		if _, home := p.homes[r]; !home {
			regions = append(regions, r)
		}
	}
	return regions
}

// listInward lists the references in regions of the outside that lead into homes.
func (p *pause) listInward(regions []int) {
	for _, r := range regions {
		row, _ := p.heap.Row(r)
		for _, at := range row {
			for _, field := range p.fields(at) {
				if p.inHome(address(p.reference(field))) {
					p.inward = append(p.inward, field)
				}
			}
		}
	}
}

// reachAll has each object that is reached be moved or kept.
func (p *pause) reachAll() {
	for _, s := range p.heap.Roots {
		for _, r := range s.List() {
			p.reach(r)
		}
	}
	for _, field := range p.inward {
		if r := p.reference(field); p.heap.Sets.Has(p.heap.Geom.Region(address(r)), p.heap.Geom.Card(field)) {
			p.reach(r)
		}
	}
	// The list grows while it is gone through, by what the objects lead to.
	for i := 0; i < len(p.list); i++ {
		for _, field := range p.fields(p.list[i]) {
			p.reach(p.reference(field))
		}
	}
}

// leadAll has all handles and references that lead to what was moved lead to where it is now: those of the outside, too, that aren't remembered.
func (p *pause) leadAll() {
	for _, s := range p.heap.Roots {
		for i, r := range s.List() {
			s.Set(i, p.now(r))
		}
	}
	for _, field := range p.inward {
		if p.lead(field) {
			p.changed = append(p.changed, field)
		}
	}
	for _, at := range p.list {
		for _, field := range p.fields(at) {
			p.lead(field)
		}
	}
}

// lead has the reference at an address lead to where its object is now: is that elsewhere?
func (p *pause) lead(field int) bool {
	r := p.reference(field)
	now := p.now(r)
	p.heap.Arena.Store(field, uint64(now))
	return now != r
}

// now is the reference to where an object is that a reference led to. Only of what was moved there is word, since all others lead to objects yet.
func (p *pause) now(r api.Ref) api.Ref {
	if x, _ := parse.At(p.heap.Arena, address(r)); x.Kind == api.HeadForward {
		return reference(x.To)
	}
	return r
}

// reach moves or keeps what a reference leads to, if that is in a home and neither was done yet.
func (p *pause) reach(r api.Ref) {
	at := address(r)
	if !p.inHome(at) {
		return
	}
	x, _ := parse.At(p.heap.Arena, at)
	if _, stays := p.kept[at]; stays || x.Kind == api.HeadForward {
		return
	}
	if to, is := p.move(at, x); is {
		p.list = append(p.list, to)
		p.report.Moved++
		return
	}
	p.keep(at, x)
	p.list = append(p.list, at)
	p.report.Failed++
}

// move copies an object to where it is from now on, and leaves word of that where it was; false, if the move fails.
func (p *pause) move(at int, x api.Header) (int, bool) {
	p.tries++
	if fail := p.heap.Config.Fail; fail != 0 && p.tries%fail == 0 {
		return 0, false
	}
	h := p.heap
	goesOld := h.Regions.State(h.Geom.Region(at)) == api.Old || x.Age+1 >= h.Config.Tenure
	to, is := p.place(x.Size, goesOld)
	if !is {
		return 0, false
	}
	h.Arena.Move(to, at, x.Size)
	p.write(at, api.Header{Kind: api.HeadForward, Size: x.Size, To: to})
	x.Age++
	if goesOld {
		x.Age = 0
		h.Offs.Put(to, x.Size)
	}
	p.write(to, x)
	return to, true
}

// place takes so many words in an old or a survivor region: where they begin; false, if there are none.
func (p *pause) place(size int, old bool) (int, bool) {
	if old {
		return p.old.take(p.heap, size)
	}
	return p.survivor.take(p.heap, size)
}

// keep has an object stay where it is.
func (p *pause) keep(at int, x api.Header) {
	p.kept[at] = struct{}{}
	p.homes[p.heap.Geom.Region(at)]++
	x.Age = 0
	p.write(at, x)
}

// write writes a header.
func (p *pause) write(at int, x api.Header) {
	word, _ := head.Pack(x)
	p.heap.Arena.Store(at, word)
}

// inHome tells whether a word lies in a home; an address of none doesn't.
func (p *pause) inHome(at int) bool {
	_, is := p.homes[p.heap.Geom.Region(at)]
	return is
}

// fields are the addresses of the references of what stands at an address; a filler has none.
func (p *pause) fields(at int) []int {
	fields, _ := parse.Fields(p.heap.Arena, at)
	return fields
}

// reference is that at an address.
func (p *pause) reference(field int) api.Ref {
	word, _ := p.heap.Arena.Load(field)
	return api.Ref(word)
}
