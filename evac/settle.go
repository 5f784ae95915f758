package evac

import (
	"maps"
	"slices"

	"gleaner/api"
	"gleaner/parse"
)

// settle makes the homes old that have kept objects, and frees the others.
func (p *pause) settle() {
	for _, r := range slices.Sorted(maps.Keys(p.homes)) {
		if p.homes[r] > 0 {
			p.settleKept(r)
			p.report.Kept = append(p.report.Kept, r)
		} else {
			p.heap.Free(r)
			p.report.Freed = append(p.report.Freed, r)
		}
	}
}

// settleKept makes a home old of which only the kept objects are left, with fillers between them.
func (p *pause) settleKept(r int) {
	h := p.heap
	at, _ := h.Geom.Base(r)
	end := h.Regions.Top(r)
	// Words from there on up to the next kept object are nobody's.
	from := at
	for at < end {
		// What was moved left word that tells its size, too.
		x, _ := parse.At(h.Arena, at)
		if _, stays := p.kept[at]; stays {
			p.fill(from, at)
			h.Offs.Put(at, x.Size)
			from = at + x.Size
		}
		at += x.Size
	}
	p.fill(from, end)
	h.Regions.Turn(r, api.Old)
}

// fill makes words a filler, if there are any.
func (p *pause) fill(from, to int) {
	parse.Fill(p.heap.Arena, from, to)
	p.heap.Offs.Put(from, to-from)
}

// remember has the regions be told of the references that lead into them from where there were none: in objects that are old now, and of the outside in those that were changed.
func (p *pause) remember() {
	for _, at := range p.list {
		if p.heap.Regions.State(p.heap.Geom.Region(at)) != api.Old {
			continue
		}
		for _, field := range p.fields(at) {
			p.rememberField(field)
		}
	}
	for _, field := range p.changed {
		p.rememberField(field)
	}
}

// rememberField has the region into which a reference leads remember its card, if that is another region.
func (p *pause) rememberField(field int) {
	g := p.heap.Geom
	to := address(p.reference(field))
	if g.Cross(field, to) {
		p.heap.Sets.Add(g.Region(to), g.Card(field))
	}
}

// freeIdle frees all regions of each idle big object. All are found ahead of the first that goes, since that changes what others remember.
func (p *pause) freeIdle() {
	used := p.used()
	for _, r := range p.heap.Regions.List(api.HumStart) {
		if _, is := used[r]; !is && p.header(r).Ptrs == 0 && len(p.heap.Sets.Cards(r)) == 0 {
			p.report.Big = append(p.report.Big, r)
		}
	}
	for _, first := range p.report.Big {
		for i := range p.heap.Geom.Span(p.header(first).Size) {
			p.heap.Free(first + i)
		}
	}
}

// used are the regions into which handles and objects that were reached lead.
func (p *pause) used() map[int]struct{} {
	used := map[int]struct{}{}
	for _, s := range p.heap.Roots {
		for _, r := range s.List() {
			used[p.heap.Geom.Region(address(r))] = struct{}{}
		}
	}
	for _, at := range p.list {
		for _, field := range p.fields(at) {
			used[p.heap.Geom.Region(address(p.reference(field)))] = struct{}{}
		}
	}
	return used
}

// header is that of the big object that begins in a region.
func (p *pause) header(r int) api.Header {
	base, _ := p.heap.Geom.Base(r)
	x, _ := p.heap.Object(reference(base))
	return x
}
