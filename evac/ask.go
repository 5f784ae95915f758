package evac

import (
	"slices"

	"gleaner/api"
	"gleaner/heap"
	"gleaner/parse"
)

// lacksHeader tells whether a header is none that is needed of a card: of one that waits, or of one of the outside that is remembered for a home. The heap is sound.
func lacksHeader(h *heap.Heap, homes []int) bool {
	broken := brokenCards(h)
	if len(broken) == 0 {
		return false
	}
	isBroken := func(card int) bool {
		_, is := broken[card]
		return is
	}
	outside := func(card int) bool {
		first, _ := h.Geom.First(card)
		return !slices.Contains(homes, h.Geom.Region(first))
	}
	for _, home := range homes {
		for _, card := range h.Sets.Cards(home) {
			if isBroken(card) && outside(card) {
				return true
			}
		}
	}
	return slices.ContainsFunc(waiting(h), isBroken)
}

// brokenCards are those at which Offs leads to a header that is none. Of a sound heap such cards lie in old regions: a big object's one header is in its row.
func brokenCards(h *heap.Heap) map[int]struct{} {
	broken := map[int]struct{}{}
	for _, r := range h.Regions.List(api.Old) {
		first, _ := h.Geom.Base(r)
		// Behind the row's end there is no object, so that no header is needed.
		for end := rowEnd(h, r); first < end; first += h.Geom.CardWords {
			if lacks(h, first, end) {
				broken[h.Geom.Card(first)] = struct{}{}
			}
		}
	}
	return broken
}

// lacks tells whether one of the headers is none that stand ahead of a card's and of the row's end, from the one on that Offs knows to cover the card's first word.
func lacks(h *heap.Heap, first, end int) bool {
	at, e := h.Offs.First(h.Geom.Card(first))
	if e != api.OK || h.Geom.Region(at) != h.Geom.Region(first) {
		// The row is gone through from its first word on, and it is one.
		return false
	}
	for at < min(end, first+h.Geom.CardWords) {
		x, e := parse.At(h.Arena, at)
		if e != api.OK || x.Kind == api.HeadForward {
			return true
		}
		at += x.Size
	}
	return false
}

// rowEnd is where the row of an old region ends.
func rowEnd(h *heap.Heap, r int) int {
	end, _ := h.Geom.Base(r)
	row, _ := h.Row(r)
	if len(row) > 0 {
		last := row[len(row)-1]
		x, _ := parse.At(h.Arena, last)
		end = last + x.Size
	}
	return end
}
