package full

import (
	"gleaner/api"
	"gleaner/head"
)

// lift takes the words of all objects that are left out of the arena, one object behind the other, as they will be.
func (p *plan) lift() []uint64 {
	words := make([]uint64, 0, p.words)
	for _, o := range p.left {
		o.header.Age = 0
		first, _ := head.Pack(o.header)
		words = append(words, first)
		for k := 1; k < o.header.Size; k++ {
			word, _ := p.heap.Arena.Load(o.from + k)
			if k <= o.header.Ptrs {
				word = uint64(p.goes[api.Ref(word)])
			}
			words = append(words, word)
		}
	}
	return words
}

// empty frees all regions, and has no table know of anything.
func (p *plan) empty() {
	h := p.heap
	for i := range h.Buffers {
		h.Buffers[i].Drop()
	}
	h.Queue.Drain()
	for _, card := range h.Cards.List() {
		h.Cards.Clean(card)
	}
	// Free regions may have words that are known or marked, too.
	h.Offs.Drop(0, h.Geom.Words)
	h.Marks.Fill(0, h.Geom.Words, false)
	for r := range h.Geom.Regions {
		h.Regions.Release(r)
		h.Sets.Clear(r)
	}
}

// lay puts the objects where they go, and has the tables know of them.
func (p *plan) lay(words []uint64) {
	h := p.heap
	for _, o := range p.left {
		p.use(o)
		h.Offs.Put(o.to, o.header.Size)
		for k := range o.header.Size {
			h.Arena.Store(o.to+k, words[k])
		}
		words = words[o.header.Size:]
		p.remember(o)
	}
}

// use takes the words for an object. All regions were free and the objects rise, so that these words are the next ones that there are.
func (p *plan) use(o object) {
	g, regions := p.heap.Geom, p.heap.Regions
	if o.alone {
		regions.Run(g.Span(o.header.Size), o.header.Size)
		return
	}
	if o.to%g.RegionWords == 0 {
		regions.Claim(api.Old)
	}
	regions.Bump(g.Region(o.to), o.header.Size)
}

// remember has other regions remember the references of an object that lead into them.
func (p *plan) remember(o object) {
	g := p.heap.Geom
	for field := o.to + 1; field <= o.to+o.header.Ptrs; field++ {
		to := address(p.reference(field))
		if g.Cross(field, to) {
			p.heap.Sets.Add(g.Region(to), g.Card(field))
		}
	}
}

// leadHandles has all handles lead to where their objects are now.
func (p *plan) leadHandles() {
	for _, s := range p.heap.Roots {
		for i, r := range s.List() {
			s.Set(i, p.goes[r])
		}
	}
}
