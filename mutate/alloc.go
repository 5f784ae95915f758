package mutate

import (
	"gleaner/api"
	"gleaner/buffer"
	"gleaner/parse"
)

// alloc takes the words of a new object. Where there are none the operation waits, and this step is done anew.
func (m *Mutator) alloc() Result {
	size, e := m.size(m.now.op)
	if e == api.OK && m.stack().Room() == 0 {
		e = api.ErrStack
	}
	if e != api.OK {
		return m.answer(api.Answer{Code: e})
	}
	at, e := m.words(size)
	if e != api.OK {
		m.now.stage = waiting
		return Result{Busy: true, Want: true}
	}
	return m.goOn(taken, at)
}

// size is how many words an object has of A references and B data words: its header is one of them. ErrSize.
func (m *Mutator) size(o api.Op) (int, api.Errno) {
	// The bound is taken down, since a sum of the two could wrap round.
	if o.A < 0 || o.B < 0 || o.B >= m.heap.Geom.MaxSize-o.A || o.A+o.B == 0 {
		return 0, api.ErrSize
	}
	return 1 + o.A + o.B, api.OK
}

// words takes so many: the first one's address. ErrFull.
func (m *Mutator) words(size int) (int, api.Errno) {
	if m.heap.Geom.Big(size) {
		return m.run(size)
	}
	own := &m.heap.Buffers[m.thread]
	if own.Left() < size {
		m.retire()
		m.refill()
	}
	return own.Take(size)
}

// run takes regions for a big object. ErrFull.
func (m *Mutator) run(size int) (int, api.Errno) {
	first, e := m.heap.Regions.Run(m.heap.Geom.Span(size), size)
	if e != api.OK {
		return 0, e
	}
	return m.heap.Geom.Base(first)
}

// retire drops what is left in the thread's own buffer: the row ends there.
func (m *Mutator) retire() {
	first, behind := m.heap.Buffers[m.thread].Drop()
	if first < behind {
		m.heap.Regions.SetTop(m.heap.Geom.Region(first), first)
	}
}

// refill makes all words of a free region the thread's buffer, if there is one and fewer than Young regions are Eden.
func (m *Mutator) refill() {
	h := m.heap
	if len(h.Regions.List(api.Eden)) >= h.Config.Young {
		return
	}
	r, e := h.Regions.Claim(api.Eden)
	if e != api.OK {
		return
	}
	base, _ := h.Geom.Base(r)
	end := base + h.Geom.RegionWords
	// The region is filled to its end from now on; its row ends where the buffer's words are left.
	h.Regions.SetTop(r, end)
	h.Buffers[m.thread], _ = buffer.New(base, end)
}

// makeObject makes the object of the words that were taken, whether there is room for its handle or not: the row must be whole.
func (m *Mutator) makeObject() Result {
	o, at := m.now.op, m.now.at
	size := 1 + o.A + o.B
	parse.Make(m.heap.Arena, at, size, o.A)
	if m.heap.Geom.Big(size) {
		m.heap.Offs.Put(at, size)
	}
	return m.answer(api.Answer{Code: m.stack().Push(reference(at))})
}
