package refine

import (
	"slices"

	"gleaner/api"
	"gleaner/heap"
	"gleaner/parse"
)

// place is what is left of a card: the references in it of the object whose header was looked at last, and the headers of the objects behind that one. Of the zero place nothing is left.
type place struct {
	first, behind int // the card's words
	field, last   int // the next reference, and the end of those that lie in the card
	header, end   int // the next header, and where no header stands any more whose references may lie in the card
	big           bool
}

// begin is the place where nothing of a card was looked at. ErrRange.
func begin(h *heap.Heap, card int) (place, api.Errno) {
	first, e := h.Geom.First(card)
	if e != api.OK {
		return place{}, e
	}
	p := place{first: first, behind: first + h.Geom.CardWords}
	r := regionOf(h, first)
	switch h.Regions.State(r) {
	case api.Old:
		// Behind the row's end there is no object, so that no header is needed.
		if end := rowEnd(h, r); first < end {
			p.header, p.end = firstHeader(h, card, r), min(end, p.behind)
		}
	case api.HumStart, api.HumCont:
		if at, is := bigHeader(h, r); is {
			p.header, p.end, p.big = at, at+1, true
		}
	}
	return p, api.OK
}

// hasMore tells whether anything is left.
func (p *place) hasMore() bool {
	return p.field < p.last || p.header < p.end
}

// step looks at the next word: at a reference, or else at a header. ErrBroken.
func (p *place) step(h *heap.Heap) api.Errno {
	if p.field < p.last {
		remember(h, p.field)
		p.field++
		return api.OK
	}
	return p.enter(h)
}

// enter looks at the next header, which tells where its object's references and the header behind it are. ErrBroken.
func (p *place) enter(h *heap.Heap) api.Errno {
	x, e := parse.At(h.Arena, p.header)
	// A row may have fillers, but the one object of a big region is one.
	if e != api.OK || x.Kind != api.HeadObject && (p.big || x.Kind != api.HeadFiller) {
		return api.ErrBroken
	}
	p.field = max(p.header+1, p.first)
	p.last = min(p.header+1+x.Ptrs, p.behind)
	p.header += x.Size
	return api.OK
}

// ask looks at all headers that are left; the place itself stays where it is. ErrBroken.
func (p place) ask(h *heap.Heap) api.Errno {
	for p.header < p.end {
		if e := p.enter(h); e != api.OK {
			return e
		}
	}
	return api.OK
}

// remember looks at a reference: if it leads out of its region, the one that it leads into remembers its card.
func remember(h *heap.Heap, field int) {
	word, _ := h.Arena.Load(field)
	// The address of nil, and of a reference that no int can hold, is below 0: no word, to which nothing crosses.
	to := int(word - 1)
	if h.Geom.Cross(field, to) {
		h.Sets.Add(regionOf(h, to), field>>uint(h.Config.CardShift))
	}
}

// rowEnd is where the row of a region ends that is filled word by word: at the first word that a buffer has left in it, else at its Top.
func rowEnd(h *heap.Heap, r int) int {
	var left []int
	for _, b := range h.Buffers {
		if first, behind := b.Rest(); first < behind && regionOf(h, first) == r {
			left = append(left, first)
		}
	}
	if len(left) == 0 {
		return h.Regions.Top(r)
	}
	return slices.Min(left)
}

// firstHeader is where the object begins that covers a card's first word, if Offs knows it; else the row is to be gone through from its first word on.
func firstHeader(h *heap.Heap, card, r int) int {
	at, e := h.Offs.First(card)
	if e == api.OK && regionOf(h, at) == r {
		return at
	}
	return r << uint(h.Config.Shift)
}

// bigHeader is where the big object begins that a region belongs to, and whether there is one.
func bigHeader(h *heap.Heap, r int) (int, bool) {
	for h.Regions.State(r) == api.HumCont {
		r--
	}
	// Ahead of the first region there is none, which is no HumStart either.
	if h.Regions.State(r) != api.HumStart {
		return 0, false
	}
	return r << uint(h.Config.Shift), true
}

// regionOf is the region that a word lies in.
func regionOf(h *heap.Heap, at int) int {
	return at >> uint(h.Config.Shift)
}
