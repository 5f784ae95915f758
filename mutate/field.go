package mutate

import (
	"gleaner/api"
	"gleaner/cards"
)

// look finds the field that an operation is about, by the header of its object.
func (m *Mutator) look() Result {
	field, e := m.find(m.now.op)
	if e != api.OK {
		return m.answer(api.Answer{Code: e})
	}
	return m.goOn(looked, field)
}

// find is the address of the reference or data word B of handle A. ErrHandle, ErrNilRef, ErrField.
func (m *Mutator) find(o api.Op) (int, api.Errno) {
	if o.Kind == api.OpStore {
		// That there is no handle C is told ahead of that handle A is nil.
		if _, e := m.stack().At(o.C); e != api.OK {
			return 0, e
		}
	}
	r, e := m.stack().At(o.A)
	if e != api.OK {
		return 0, e
	}
	x, e := m.heap.Object(r)
	if e != api.OK {
		return 0, e
	}
	first, count := address(r)+1, x.Ptrs
	if o.Kind == api.OpRead || o.Kind == api.OpWrite {
		first, count = first+x.Ptrs, x.Size-1-x.Ptrs
	}
	if o.B < 0 || o.B >= count {
		return 0, api.ErrField
	}
	return first + o.B, api.OK
}

// useField does what the operation is about; but a store while a marking goes on only looks at what it will write over.
func (m *Mutator) useField() Result {
	var a api.Answer
	o, field := m.now.op, m.now.at
	switch o.Kind {
	case api.OpStore:
		if m.shared.Marking {
			return m.log()
		}
		return m.store()
	case api.OpLoad:
		a.Code = m.load(field)
	case api.OpRead:
		a.Word, a.Code = m.heap.Arena.Load(field)
	case api.OpWrite:
		a.Code = m.heap.Arena.Store(field, o.V)
	}
	return m.answer(a)
}

// load pushes the reference in a field. ErrStack.
func (m *Mutator) load(field int) api.Errno {
	word, e := m.heap.Arena.Load(field)
	if e != api.OK {
		return e
	}
	return m.stack().Push(api.Ref(word))
}

// log keeps what a store is about to write over, for the marking that goes on.
func (m *Mutator) log() Result {
	field := m.now.at
	word, _ := m.heap.Arena.Load(field)
	// The lists are others' too, who may have made them fewer.
	if word != 0 && m.thread < len(m.shared.Old) {
		old := &m.shared.Old[m.thread]
		*old = append(*old, api.Ref(word))
	}
	return m.goOn(logged, field)
}

// store writes handle C into the field, and answers; if the store is to be noted, the operation goes on.
func (m *Mutator) store() Result {
	h, field := m.heap, m.now.at
	to, e := m.stack().At(m.now.op.C)
	if e == api.OK {
		e = h.Arena.Store(field, uint64(to))
	}
	from := h.Regions.State(h.Geom.Region(field))
	r := m.answer(api.Answer{Code: e})
	if e == api.OK && cards.Note(h.Geom, from, field, to) {
		m.now = operation{stage: written, at: field}
		r.Busy = true
	}
	return r
}

// note makes the card of the field that was written dirty. One that is dirty waits already.
func (m *Mutator) note() Result {
	card := m.heap.Geom.Card(m.now.at)
	m.now = operation{}
	if wasClean, _ := m.heap.Cards.Dirty(card); !wasClean {
		return Result{}
	}
	left, _ := m.heap.Queue.Push(m.thread, card)
	return Result{Left: left}
}
