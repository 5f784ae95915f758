package refine

import (
	"gleaner/api"
	"gleaner/heap"
)

// Worker looks at cards that wait, one behind the other, a word of the arena at most in each step.
type Worker struct {
	heap *heap.Heap
	busy bool
	card int   // the one that it is busy with
	at   place // what is left of that card
}

// New gives a worker that isn't busy. ErrNil.
func New(h *heap.Heap) (*Worker, api.Errno) {
	if h == nil {
		return nil, api.ErrNil
	}
	return &Worker{heap: h}, api.OK
}

// Busy: is it at a card? Of a nil worker false.
func (w *Worker) Busy() bool {
	return w != nil && w.busy
}

// Step takes a card, or looks at the next word of the one that was taken: was there anything to do? Of a nil worker false.
func (w *Worker) Step() bool {
	if w == nil {
		return false
	}
	if !w.busy {
		return w.take()
	}
	// Where a header is none, what is behind it can't be found, and nothing is left.
	broken := w.at.hasMore() && w.at.step(w.heap) != api.OK
	w.busy = !broken && w.at.hasMore()
	return true
}

// Stop has the worker let go of its card: which one; -1, if it isn't busy, and of a nil worker.
func (w *Worker) Stop() int {
	if !w.Busy() {
		return -1
	}
	w.busy = false
	return w.card
}

// take makes the worker busy with the first card that waits, if one does.
func (w *Worker) take() bool {
	card, e := w.heap.Queue.Pop()
	if e != api.OK {
		return false
	}
	// It is clean ahead of the first look, so that a store behind that look has it wait once more.
	w.heap.Cards.Clean(card)
	// Of a card that isn't there nothing is left from the first.
	w.at, _ = begin(w.heap, card)
	w.busy, w.card = true, card
	return true
}
