package ideal_test

import (
	"slices"
	"testing"

	"quitrent/api"
	"quitrent/ideal"
	"quitrent/op"
)

// watched is an ideal heap, and what was seen of it.
type watched struct {
	m    *ideal.Ideal
	c    api.Conf
	lost map[int]bool
	// rose and fell are how often Live was more, and less, behind an operation than ahead of it, by its kind.
	rose, fell map[int]int
}

// watch answers a new ideal heap that is watched.
func watch(t *testing.T, c api.Conf) *watched {
	t.Helper()
	return &watched{open(t, c), c, map[int]bool{}, map[int]int{}, map[int]int{}}
}

// do does an operation, and tells where something else follows than has to.
func (w *watched) do(t *testing.T, o api.Op, full bool) {
	t.Helper()
	live := w.m.Live()
	a := w.m.Do(o, full)
	w.rises(t, o, a, w.m.Live()-live)
	reached := w.m.Reach()
	for _, i := range reached {
		if w.lost[i] {
			t.Fatalf("%v: %v: %d could not be reached, and now it can", w.c, o, i)
		}
		if w.m.Names(i) < 1 {
			t.Fatalf("%v: %v: %d is reached, but nobody names it", w.c, o, i)
		}
	}
	for i := 1; i <= w.m.Objects(); i++ {
		if _, ok := slices.BinarySearch(reached, i); !ok {
			w.lost[i] = true
		}
	}
}

// rises tells where Live changes as it may not.
func (w *watched) rises(t *testing.T, o api.Op, a api.Answer, by int) {
	t.Helper()
	switch o.Kind {
	case api.OpAlloc, api.OpLoad, api.OpStore, api.OpCopy, api.OpDrop:
	default:
		if by != 0 {
			t.Fatalf("%v: %v: Live changed by %d", w.c, o, by)
		}
	}
	if a.Err != api.OK && by != 0 {
		t.Fatalf("%v: %v told %d, but Live changed by %d", w.c, o, a.Err, by)
	}
	if by > op.Needs(w.c, o) {
		t.Fatalf("%v: %v: Live rose by %d", w.c, o, by)
	}
	if by > 0 {
		w.rose[o.Kind]++
	}
	if by < 0 {
		w.fell[o.Kind]++
	}
}

// P23.3: whatever is done, what can't be reached is never reached again, what can be reached is named, and Live changes just as it may.
func TestWhatFollows(t *testing.T) {
	for i, c := range confs {
		rose, fell, lost := map[int]int{}, map[int]int{}, 0
		for seed := range 10 {
			w, next := watch(t, c), chance(uint32(50*i+seed))
			for range 400 {
				w.do(t, anyOp(next, c), next(9) == 0)
			}
			for kind := api.OpAlloc; kind <= api.OpTick; kind++ {
				rose[kind] += w.rose[kind]
				fell[kind] += w.fell[kind]
			}
			lost += len(w.lost)
		}
		for kind := api.OpAlloc; kind <= api.OpTick; kind++ {
			changes := slices.Contains([]int{api.OpAlloc, api.OpLoad, api.OpStore, api.OpCopy, api.OpDrop}, kind)
			// Where there is one slot alone, nothing is copied to another one.
			if changes && fell[kind] < 3 && c.R > 1 || !changes && fell[kind] > 0 || (rose[kind] > 0) != (kind == api.OpAlloc) {
				t.Errorf("%v: the kind %d: Live rose %d times, fell %d times", c, kind, rose[kind], fell[kind])
			}
		}
		if lost < 50 {
			t.Errorf("%v: %d could be reached no more: that tells too little", c, lost)
		}
	}
}

// P23.3: Live rises by all blocks of an Alloc's object where its slot held nothing, or what is held elsewhere too, and by fewer where it held another one's last name; then it may fall, too.
func TestLiveRises(t *testing.T) {
	w := watch(t, small)
	for _, x := range []struct {
		o    api.Op
		live int
	}{
		{allocates(0, 1, 20), 3}, {copies(1, 0), 3}, {allocates(0, 1, 0), 4}, {allocates(1, 9, 0), 3}, {stores(1, 0, 0), 3}, {allocates(0, 0, 0), 4},
		{stores(1, 8, 1), 4}, {writes(0, 0, 1), 4}, {ticks(), 4}, {lens(1), 4}, {sames(0, 1), 4}, {allocates(1, 0, 0), 2},
		{drops(0), 1}, {drops(0), 1}, {allocates(0, 120, 0), 10}, {allocates(0, 0, 0), 2}, {copies(0, 1), 1}, {drops(1), 1}, {drops(0), 0},
	} {
		w.do(t, x.o, false)
		if n := w.m.Live(); n != x.live {
			t.Errorf("%v: %d blocks, want %d", x.o, n, x.live)
		}
	}
}

// P23.3: a ring that can't be reached isn't reached again, whatever it names is done with.
func TestLostStaysLost(t *testing.T) {
	w := watch(t, small)
	for _, o := range []api.Op{
		allocates(0, 2, 0), allocates(1, 2, 0), allocates(2, 1, 0), stores(0, 0, 1), stores(1, 0, 0), stores(0, 1, 2), stores(1, 1, 2), drops(0), drops(1),
		// The third one can be reached, and is named by two that can't.
		stores(2, 0, 2), loads(0, 2, 0), copies(1, 0), allocates(3, 2, 0), stores(3, 0, 2), stores(3, 1, 3), drops(2), loads(2, 3, 0), drops(3),
	} {
		w.do(t, o, false)
	}
	if !w.lost[1] || !w.lost[2] || w.lost[3] || !w.lost[4] || w.m.Names(3) != 4 {
		t.Errorf("%v, %d names", w.lost, w.m.Names(3))
	}
}
