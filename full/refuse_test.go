package full_test

import (
	"testing"

	"gleaner/api"
	"gleaner/full"
	"gleaner/heap"
)

// stage is a heap with each kind of region, objects that are come to in each way and such as aren't, cards that wait, are dirty or remembered, marked words, and a buffer with words left.
func stage() *model {
	m := blank(small(12))
	m.be(0, api.Old, api.Eden, api.Survivor, api.Old, api.HumStart, api.HumCont, api.HumStart, api.Free, api.Eden, api.Old, api.Free, api.Free)
	m.put(0, 6, 4, lead(64), lead(128), lead(192), lead(384))
	m.put(6, 3, 1, lead(70), 5)
	m.fill(9, 5)
	m.put(14, 2, 0, lead(75))
	m.put(64, 4, 2, lead(68), lead(14), lead(128))
	m.put(68, 2, 1, lead(512))
	m.put(70, 3, 1, lead(64))
	m.fill(73, 2)
	m.put(75, 5, 3, lead(128), lead(75))
	m.put(128, 3, 1, lead(192))
	m.put(131, 4, 2, lead(131), lead(384))
	m.age(128, 1)
	m.age(131, 7)
	m.put(192, 3, 1, lead(516))
	m.put(195, 2, 1, lead(64))
	m.put(256, 70, 0, 9)
	m.put(384, 40, 2, lead(64), lead(576))
	m.put(512, 4, 1, lead(0))
	m.put(516, 2, 1)
	m.put(518, 3, 2, lead(256), lead(516))
	m.tops[8] = 576
	m.buffers[1] = piece{512, 9, 576}
	m.put(576, 4, 2, lead(512), lead(384))
	m.handles = [][]uint64{{0, lead(75), lead(0)}, {lead(131), lead(75), lead(518)}}
	m.remember(1, 1, 385).remember(2, 2).remember(3, 3).remember(6, 4, 578).remember(8, 193, 577).remember(9, 386)
	m.dirty = []int{24, 1, 70}
	m.pushed = [][2]int{{0, 24}, {1, 1}, {1, 30}, {1, 8}, {1, 99}}
	for at := range m.words {
		if at%3 > 0 {
			m.marks = append(m.marks, at)
		}
	}
	return m.noteAll()
}

// wantRefused asks for both calls being refused: nothing else is answered, and nothing has changed.
func wantRefused(t *testing.T, h *heap.Heap, want api.Errno) {
	t.Helper()
	twin := twinOf(h)
	if n, e := full.Compact(h); n != 0 || e != want {
		t.Fatalf("Compact: %d, %v, not %v", n, e, want)
	}
	if !same(h, twin) {
		t.Fatal("a refused Compact changed something")
	}
	if n, e := full.Need(h); n != 0 || e != want {
		t.Fatalf("Need: %d, %v, not %v", n, e, want)
	}
	if !same(h, twin) {
		t.Fatal("a refused Need changed something")
	}
}

// P20.1, P20.2
func TestNilHeap(t *testing.T) {
	if n, e := full.Compact(nil); n != 0 || e != api.ErrNil {
		t.Errorf("Compact of no heap: %d, %v", n, e)
	}
	if n, e := full.Need(nil); n != 0 || e != api.ErrNil {
		t.Errorf("Need of no heap: %d, %v", n, e)
	}
}

// P20.1, P20.2: a heap that isn't sound, for each reason: nothing has changed.
func TestHeapsThatAreNotSound(t *testing.T) {
	for k, breach := range []func(m *model){
		// A reference that leads to no object's header: of each kind of region, of what is left and of what isn't.
		func(m *model) { m.words[1] = lead(66) },
		func(m *model) { m.words[7] = lead(1) },
		func(m *model) { m.words[65] = lead(65) },
		func(m *model) { m.words[77] = lead(73) },
		func(m *model) { m.words[69] = lead(700) },
		func(m *model) { m.words[129] = lead(521) },
		func(m *model) { m.words[196] = lead(320) },
		func(m *model) { m.words[385] = lead(520) },
		func(m *model) { m.words[577] = 769 },
		func(m *model) { m.words[577] = 3000 },
		func(m *model) { m.words[577] = 1 << 63 },
		func(m *model) { m.words[519] = junk },
		func(m *model) { m.words[513] = lead(9) },
		// A row that is none: a header that is none, one that may not be there, one that ends elsewhere.
		func(m *model) { m.words[14] = 0 },
		func(m *model) { m.words[6] = 4 },
		func(m *model) { m.words[75] = forward(5, 0) },
		func(m *model) { m.words[192] = junk },
		func(m *model) { m.words[9] = filler(4) },
		func(m *model) { m.words[128] = object(4, 1) },
		func(m *model) { m.words[518] = object(59, 2) },
		func(m *model) { m.tops[2]++ },
		func(m *model) { m.tops[9]-- },
		func(m *model) { m.buffers[1].taken-- },
		func(m *model) { m.buffers[1] = piece{} },
		// A HumStart with no object, or one that takes more than its regions.
		func(m *model) { m.words[256] = 0 },
		func(m *model) { m.words[384] = filler(40) },
		func(m *model) { m.words[256] = forward(70, 0) },
		func(m *model) { m.words[256] = object(129, 0) },
		func(m *model) { m.words[384] = object(65, 2) },
		// A handle that leads to no object.
		func(m *model) { m.handles[0][1] = lead(76) },
		func(m *model) { m.handles[0][0] = lead(9) },
		func(m *model) { m.handles[1] = []uint64{lead(521)} },
		func(m *model) { m.handles[1][2] = lead(448) },
		func(m *model) { m.handles[1][0] = 769 },
		func(m *model) { m.handles[1][0] = junk + 3 },
	} {
		m := stage()
		breach(m)
		h := m.lay(t)
		if h.Check() != api.ErrBroken {
			t.Fatalf("breach %d: it is sound", k)
		}
		wantRefused(t, h, api.ErrBroken)
	}
	compact(t, stage().lay(t))
}

// A heap of which the last region alone is amiss, or the last word, or the last thread's last handle.
func TestLastOfAll(t *testing.T) {
	c := small(5)
	c.Threads, c.Roots = 64, 64
	for k := range 3 {
		m := blank(c)
		m.be(4, api.Old)
		m.fill(256, 62)
		m.put(318, 2, 1)
		m.handles[63] = make([]uint64, 64)
		compact(t, m.lay(t))
		switch k {
		case 0:
			m.words[318] = 0
		case 1:
			m.words[319] = lead(319)
		case 2:
			m.handles[63][63] = lead(256)
		}
		wantRefused(t, m.lay(t), api.ErrBroken)
	}
}
