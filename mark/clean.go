package mark

import (
	"gleaner/api"
	"gleaner/parse"
)

// gap is words side by side that nobody uses: fillers, and objects that are lost.
type gap struct {
	from, to int
	lost     bool // is there any such object?
}

// Live is the live words of an Old region: those of its marked objects, and those that came into it since a marking began. Of any other region, and of a nil cycle, 0.
func (c *Cycle) Live(r int) int {
	if c == nil || c.heap.Regions.State(r) != api.Old {
		return 0
	}
	row, _ := c.heap.Row(r)
	live := c.heap.Regions.Top(r) - c.heap.Regions.Tams(r)
	for _, x := range c.marked(row) {
		live += x.Size
	}
	return live
}

// Clean finishes and ends the marking, and takes away what isn't marked: the regions that were freed, rising. ErrNil, ErrShape.
func (c *Cycle) Clean() ([]int, api.Errno) {
	if e := c.Finish(); e != api.OK {
		return nil, e
	}
	var freed []int
	for r := range c.heap.Geom.Regions {
		freed = append(freed, c.lost(r)...)
	}
	for _, r := range freed {
		c.heap.Free(r)
	}
	for _, r := range c.heap.Regions.List(api.Old) {
		c.fill(r)
	}
	c.Abort()
	return freed, api.OK
}

// marked gives the marked objects of a row by their addresses. Marks that wrong references made, where no object begins, count for nothing.
func (c *Cycle) marked(row []int) map[int]api.Header {
	marked := map[int]api.Header{}
	for _, at := range row {
		// What isn't an object in a row is a filler.
		if x, e := c.heap.Object(reference(at)); e == api.OK && c.heap.Marks.Has(at) {
			marked[at] = x
		}
	}
	return marked
}

// lost are the regions that go with what begins in one, if nothing of that stays.
func (c *Cycle) lost(r int) []int {
	row, e := c.heap.Row(r)
	// Where the row is none nobody can tell what would go: threads may be about to make a big object there.
	if e != api.OK {
		return nil
	}
	switch c.heap.Regions.State(r) {
	case api.Old:
		if c.Live(r) == 0 {
			return []int{r}
		}
	case api.HumStart:
		return c.lostRun(r, row[0])
	}
	return nil
}

// lostRun are all regions of the big object at an address, if it is lost.
func (c *Cycle) lostRun(first, at int) []int {
	if at >= c.heap.Regions.Tams(first) || c.heap.Marks.Has(at) {
		return nil
	}
	x, _ := c.heap.Object(reference(at))
	run := make([]int, c.heap.Geom.Span(x.Size))
	for i := range run {
		run[i] = first + i
	}
	return run
}

// fill makes a filler of each gap of an Old region in which an object is lost.
func (c *Cycle) fill(r int) {
	row, _ := c.heap.Row(r)
	marked, tams := c.marked(row), c.heap.Regions.Tams(r)
	var g gap
	for _, at := range row {
		x, _ := parse.At(c.heap.Arena, at)
		_, stays := marked[at]
		isFiller := x.Kind == api.HeadFiller
		if stays || !isFiller && at >= tams {
			c.close(g)
			g = gap{}
			continue
		}
		g.grow(at, x.Size, !isFiller)
	}
	c.close(g)
}

// grow puts words behind a gap's, which end where these begin, if it has any.
func (g *gap) grow(at, size int, lost bool) {
	if g.from == g.to {
		g.from = at
	}
	g.to = at + size
	g.lost = g.lost || lost
}

// close makes a filler of a gap, and notes it; but fillers among which no object is lost stay what they are.
func (c *Cycle) close(g gap) {
	if g.lost {
		parse.Fill(c.heap.Arena, g.from, g.to)
		c.heap.Offs.Put(g.from, g.to-g.from)
	}
}
