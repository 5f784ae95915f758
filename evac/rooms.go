package evac

import (
	"gleaner/api"
	"gleaner/heap"
)

// rooms are the regions of one state that take what is moved: those that were there ahead of the pause, and those that are claimed in it.
type rooms struct {
	state          api.RegionState
	there, claimed lane
	noneFree       bool // none gets free as long as objects are moved
}

// lane is regions one above the other. That holds of claimed ones, too, since the lowest free one is claimed first.
type lane struct {
	regions []int
	next    map[int]int // of each size the place in the list of the first region that may have room for it
}

// newRooms are those of which these regions, rising, are there.
func newRooms(s api.RegionState, there []int) rooms {
	return rooms{state: s, there: newLane(there), claimed: newLane(nil)}
}

func newLane(regions []int) lane {
	return lane{regions: regions, next: map[int]int{}}
}

// take takes words in the lowest region that has room for them, else in a free one that is claimed: where they begin; false, if there are none.
func (o *rooms) take(h *heap.Heap, size int) (int, bool) {
	r, is := o.lowest(h, size)
	if !is {
		r, is = o.claim(h)
	}
	if !is {
		return 0, false
	}
	at, e := h.Regions.Bump(r, size)
	return at, e == api.OK
}

// lowest is the lowest region that has room for so many words; false, if none has.
func (o *rooms) lowest(h *heap.Heap, size int) (int, bool) {
	r, is := o.there.lowest(h, size)
	other, isToo := o.claimed.lowest(h, size)
	if is && (!isToo || r < other) {
		return r, true
	}
	return other, isToo
}

// claim makes a free region be one of these; false, if none is free.
func (o *rooms) claim(h *heap.Heap) (int, bool) {
	if o.noneFree {
		return 0, false
	}
	r, e := h.Regions.Claim(o.state)
	if e != api.OK {
		o.noneFree = true
		return 0, false
	}
	o.claimed.regions = append(o.claimed.regions, r)
	return r, true
}

// lowest is the lowest region of a lane that has room for so many words; false, if none has.
func (l *lane) lowest(h *heap.Heap, size int) (int, bool) {
	for l.next[size] < len(l.regions) {
		r := l.regions[l.next[size]]
		base, _ := h.Geom.Base(r)
		if h.Regions.Top(r)+size <= base+h.Geom.RegionWords {
			return r, true
		}
		// Regions only get fuller, so that it needn't be asked again.
		l.next[size]++
	}
	return 0, false
}
