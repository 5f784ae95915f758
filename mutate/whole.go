package mutate

import (
	"gleaner/api"
	"gleaner/roots"
)

// whole does an operation that takes one step: none of these looks at the arena.
func (m *Mutator) whole() api.Answer {
	var a api.Answer
	s, o := m.stack(), m.now.op
	switch o.Kind {
	case api.OpNil:
		a.Code = s.Push(0)
	case api.OpPop:
		_, a.Code = s.Pop()
	case api.OpDup:
		a.Code = m.send(o.A, m.thread)
	case api.OpEqual:
		a.Bit, a.Code = equal(s, o.A, o.B)
	case api.OpIsNil:
		a.Bit, a.Code = isNil(s, o.A)
	case api.OpPoll:
	case api.OpCollect:
		a.Code = collect(o.A)
	case api.OpSend:
		a.Code = m.send(o.A, o.B)
	default:
		a.Code = api.ErrKind
	}
	return a
}

// send pushes a handle on the stack of another thread, or of the same. ErrHandle, ErrRange, ErrStack.
func (m *Mutator) send(handle, thread int) api.Errno {
	r, e := m.stack().At(handle)
	if e != api.OK {
		return e
	}
	if thread < 0 || thread >= len(m.heap.Roots) {
		return api.ErrRange
	}
	return m.heap.Roots[thread].Push(r)
}

// equal: are two handles one object, or both nil? ErrHandle.
func equal(s *roots.Stack, one, other int) (bool, api.Errno) {
	p, e := s.At(one)
	if e != api.OK {
		return false, e
	}
	q, e := s.At(other)
	return e == api.OK && p == q, e
}

// isNil: is a handle nil? ErrHandle.
func isNil(s *roots.Stack, handle int) (bool, api.Errno) {
	r, e := s.At(handle)
	return e == api.OK && r == 0, e
}

// collect tells whether there is such a collection. It is for those who see the answer to make it. ErrKind.
func collect(which int) api.Errno {
	if which < 0 || which > 3 {
		return api.ErrKind
	}
	return api.OK
}
