package pause_test

import (
	"slices"
	"testing"

	"quitrent/api"
	"quitrent/pause"
)

// watched answers the lines of operations on a new heap, and looks whether none took more than it may, and their Sums are together the heap's meter.
func watched(t *testing.T, c api.Conf, l []api.Op) []pause.Line {
	t.Helper()
	h := newHeap(t, c)
	w := pause.New(h)
	for i, o := range l {
		ahead := h.Meter()
		a := w.Do(o)
		if took, may := int(h.Meter()-ahead), mayTake(c, o, a.Err); took > may {
			t.Fatalf("%v: %v, the operation %d: %v, with %d accesses of %d", c, o, i, a, took, may)
		}
		if i%16 == 0 && sum(w.Lines()) != int(h.Meter()) {
			t.Fatalf("%v: behind the operation %d: %v, but a meter of %d", c, i, w.Lines(), h.Meter())
		}
	}
	lines := w.Lines()
	for _, x := range lines {
		if x.Over != 0 {
			t.Errorf("%v: %v", c, x)
		}
	}
	if sum(lines) != int(h.Meter()) {
		t.Errorf("%v: %v, but a meter of %d", c, lines, h.Meter())
	}
	if again, err := pause.Of(c, l); err != api.OK || !slices.Equal(again, lines) {
		t.Errorf("%v: %v, %d, want %v", c, again, err, lines)
	}
	return lines
}

// P27.3: of any operations.
func TestNeverOver(t *testing.T) {
	for i, c := range confs {
		for seed := range 5 {
			lines := watched(t, c, anyOps(chance(uint32(700+10*i+seed)), c, 600))
			if len(lines) != 10 || line(lines, api.OpAlloc).Worst < 80 || line(lines, api.OpTick).Worst < 25 {
				t.Errorf("%v: %v: that tells too little", c, lines)
			}
		}
	}
}

// P27.3: of rings of the greatest objects, lost again and again, and found by the ticks between.
func TestNeverOverOfGreatest(t *testing.T) {
	for _, x := range []struct {
		c            api.Conf
		many, settle int
	}{
		{api.Conf{N: 20, W: 16, R: 2, K: 1}, 10, 2390},
		{api.Conf{N: 40, W: 16, R: 2, K: 65536}, 30, 3},
		{api.Conf{N: 30, W: 20, R: 2, K: 30}, 10, 150},
		{api.Conf{N: 600, W: 256, R: 2, K: 5000}, 3, 218},
	} {
		all := (x.c.W - 8) * (x.c.W - 1)
		lines := watched(t, x.c, lostRings(all, x.many, x.settle))
		alloc, tick := line(lines, api.OpAlloc), line(lines, api.OpTick)
		// Each of them was done, if each block that was taken was touched.
		if alloc.Count != 2*x.many || alloc.Sum < alloc.Count*(x.c.W-7) || tick.Count != x.many*x.settle || tick.Sum < tick.Count {
			t.Errorf("%v: %v: that tells too little", x.c, lines)
		}
	}
}

// lostRings are operations that make two objects of so many pointer fields, which name each other, and lose them, and tick; all that so many times.
func lostRings(fields, many, settle int) []api.Op {
	var l []api.Op
	for i := range many {
		at := i * 7 % fields
		l = append(l, allocates(0, fields, 0), stores(0, at, 0), allocates(1, fields, 0), stores(1, fields-1, 0), stores(0, fields-1, 1), loads(1, 0, fields-1), drops(0), copies(0, 1), drops(1), drops(0))
		l = append(l, slices.Repeat([]api.Op{ticks()}, settle)...)
	}
	return l
}

// P27.3: at the greatest numbers that there may be, too.
func TestNeverOverFarOut(t *testing.T) {
	for _, c := range []api.Conf{{N: 262144, W: 16, R: 4096, K: 65536}, {N: 16384, W: 256, R: 4096, K: 65536}, {N: 262144, W: 16, R: 1, K: 1}} {
		all := (c.W - 8) * (c.W - 1)
		s := c.R - 1
		lines := watched(t, c, []api.Op{allocates(s, all, 0), stores(s, all-1, s), lens(s), ticks(), drops(s), ticks(), allocates(s, 0, all), writes(s, all-1, most), reads(s, all-1), reads(s, all), ticks()})
		if alloc, may := line(lines, api.OpAlloc), mayTake(c, allocates(s, all, 0), api.OK); alloc.Count != 2 || alloc.Worst < 400 || may < alloc.Worst {
			t.Errorf("%v: %v: that tells too little", c, lines)
		}
		if tick := line(lines, api.OpTick); tick.Count != 3 || c.K > 1 && tick.Worst < 2*c.K {
			t.Errorf("%v: %v: that tells too little", c, lines)
		}
	}
}
