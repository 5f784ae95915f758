package evac

import (
	"slices"

	"gleaner/heap"
)

// full is how many cards a thread's list in the queue has when it is handed over to the common one.
const full = 4

// waiting are the cards that wait. The queue tells its cards only as they leave it: so all are taken out, and put back to where they were.
func waiting(h *heap.Heap) []int {
	common := popAll(h)
	lists := make([][]int, len(h.Roots))
	for thread := range lists {
		lists[thread] = takeList(h, thread)
	}
	putCommon(h, common)
	for thread, list := range lists {
		for _, card := range list {
			h.Queue.Push(thread, card)
		}
	}
	return slices.Concat(common, slices.Concat(lists...))
}

// popAll empties the common list.
func popAll(h *heap.Heap) []int {
	var all []int
	for h.Queue.Len() > 0 {
		card, _ := h.Queue.Pop()
		all = append(all, card)
	}
	return all
}

// takeList empties a thread's list while the common one is empty: cards are pushed behind it till it is full, and handed over with them.
func takeList(h *heap.Heap, thread int) []int {
	for more := 1; more <= full; more++ {
		over, _ := h.Queue.Push(thread, 0)
		if list := append(popAll(h), over...); len(list) > 0 {
			return list[:full-more]
		}
	}
	return nil
}

// putCommon fills the common list while all lists are empty. Cards get there by full lists alone: so others stand ahead of these, which are popped, or behind them, where there is no room for more.
func putCommon(h *heap.Heap, cards []int) {
	ahead, behind := (full-len(cards)%full)%full, 0
	if bound := h.Config.Queue; bound < full {
		ahead, behind = bound-len(cards), full-bound
	}
	for i, card := range slices.Concat(make([]int, ahead), cards, make([]int, behind)) {
		h.Queue.Push(0, card)
		if i == full-1 {
			for range ahead {
				h.Queue.Pop()
			}
		}
	}
}
