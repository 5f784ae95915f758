package mark

import "gleaner/api"

// place is what is left of an object that was gone to: its references from one address on and ahead of another. Of the zero place nothing is left.
type place struct {
	next, behind int
}

// hasMore tells whether a reference is left.
func (p *place) hasMore() bool {
	return p.next < p.behind
}

// step does the first thing that there is to do from a place, looking at one word of the arena at most: was there any?
func (c *Cycle) step(p *place) bool {
	switch {
	case p.hasMore():
		c.follow(p)
	case len(c.stack) > 0:
		last := len(c.stack) - 1
		*p = c.enter(c.stack[last])
		c.stack = c.stack[:last]
	case len(c.waits) > 0:
		c.grey(c.waits[0])
		c.waits = c.waits[1:]
	default:
		return c.goAnew(p)
	}
	return true
}

// enter is the place at the first reference of the object at an address, looking at its header. Where there is no object nothing is left.
func (c *Cycle) enter(at int) place {
	x, e := c.heap.Object(reference(at))
	// What a logged reference leads to may be any word: it may look like the header of an object of which not all words are there.
	if e != api.OK || x.Size > c.heap.Geom.Words-at {
		return place{}
	}
	return place{next: at + 1, behind: at + 1 + x.Ptrs}
}

// follow greys the next reference of a place, looking at it.
func (c *Cycle) follow(p *place) {
	word, _ := c.heap.Arena.Load(p.next)
	p.next++
	c.grey(api.Ref(word))
}

// grey marks what a reference leads to, if that lies where marks are made and has none; then it is yet to be gone through.
func (c *Cycle) grey(r api.Ref) {
	h, at := c.heap, address(r)
	// What is no word lies in no region, and that counts as a free one.
	home := h.Geom.Region(at)
	if s := h.Regions.State(home); s != api.Old && s != api.HumStart || at >= h.Regions.Tams(home) {
		return
	}
	if fresh, _ := h.Marks.Put(at); !fresh {
		return
	}
	if len(c.stack) < h.Config.Stack {
		c.stack = append(c.stack, at)
	} else {
		c.overflown = true
	}
}

// goAnew enters the next of the marked objects that are gone to anew. When all were, but for an object the stack had no room meanwhile, they are all gone to once more.
func (c *Cycle) goAnew(p *place) bool {
	at := c.heap.Marks.Next(c.anew)
	if at < 0 && c.overflown {
		c.overflown = false
		at = c.heap.Marks.Next(0)
	}
	if at < 0 {
		// What is marked from now on is on the stack, or is begun with anew.
		c.anew = c.heap.Geom.Words
		return false
	}
	c.anew = at + 1
	*p = c.enter(at)
	return true
}

// reference leads to the object whose header is at an address.
func reference(at int) api.Ref {
	return api.Ref(at) + 1
}

// address is where a reference leads to. That of nil, and of a reference that no int can hold, is below 0, where no word is.
func address(r api.Ref) int {
	return int(r - 1)
}
