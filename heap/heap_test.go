package heap_test

import (
	"math"
	"slices"
	"testing"

	"quitrent/api"
	"quitrent/grave"
	"quitrent/heap"
	"quitrent/pace"
	"quitrent/pool"
	"quitrent/round"
)

// P21.2, P21.3, P21.4: the chapter's example.
func TestExample(t *testing.T) {
	h, err := heap.New(api.Conf{N: 4, W: 16, R: 2, K: 1})
	if err != api.OK || h.Alloc(0, 1, 0) != api.OK || h.Store(0, 0, 0) != api.OK || h.Drop(0) != api.OK {
		t.Fatal("an error", err)
	}
	if v, err := h.Read(0, 0); v != 0 || err != api.ErrNil {
		t.Errorf("Read: %d, %d", v, err)
	}
	for _, m := range []struct {
		slot, nptr, ndata int
		err               api.Errno
	}{{2, 0, 0, api.ErrSlot}, {0, 40, 40, api.ErrFull}, {0, 100, 100, api.ErrSize}} {
		if err := h.Alloc(m.slot, m.nptr, m.ndata); err != m.err {
			t.Errorf("Alloc(%d, %d, %d): %d, not %d", m.slot, m.nptr, m.ndata, err, m.err)
		}
	}
}

// P21.2, P21.3, P21.4, P21.5: the document's examples 1, 2, 3, 5 and 6.
func TestExamplesOfTheWhole(t *testing.T) {
	k := open(t, api.Conf{N: 4, W: 16, R: 2, K: 40})
	k.all(t, allocates(0, 1, 1), writes(0, 0, 5))
	if a := k.do(t, reads(0, 0)); a.V != 5 {
		t.Errorf("the word is %d", a.V)
	}
	k.all(t, stores(0, 0, 0), drops(0))
	if k.h.Clean() != 3 || k.h.Pending() != 0 {
		t.Errorf("one that names itself: %d are clean, %d pending", k.h.Clean(), k.h.Pending())
	}
	for range 15 {
		k.all(t, ticks())
	}
	if k.h.Clean() != 4 || k.h.Pending() != 0 {
		t.Errorf("behind ticks: %d are clean, %d pending", k.h.Clean(), k.h.Pending())
	}
	k.all(t, allocates(1, 2, 0), copies(0, 1))
	if a := k.do(t, sames(0, 1)); a.N != 1 {
		t.Error("a copy isn't the same")
	}
	k.fails(t, loads(0, 1, 5), api.ErrIndex)
	k.all(t, loads(0, 1, 0))
	k.fails(t, lens(0), api.ErrNil)

	k = open(t, api.Conf{N: 3, W: 16, R: 1, K: 1})
	k.all(t, allocates(0, 0, 0), allocates(0, 0, 0), allocates(0, 0, 0))
	if k.h.Clean() != 1 || k.h.Pending() != 1 {
		t.Errorf("three times one: %d are clean, %d pending", k.h.Clean(), k.h.Pending())
	}
}

// noConfs are configurations that may not be.
func noConfs() []api.Conf {
	l := []api.Conf{{}, {N: 1048576, W: 16, R: 1, K: 1}, {N: 16385, W: 256, R: 1, K: 1}, {N: 3, W: 15, R: 1, K: 5}, {N: 3, W: 257, R: 1, K: 5}, {N: 3, W: 16, R: 4097, K: 5}, {N: 3, W: 16, R: 1, K: 65537}}
	for _, n := range []int{math.MinInt, -1, 0, math.MaxInt} {
		l = append(l, api.Conf{N: n, W: 16, R: 1, K: 5}, api.Conf{N: 3, W: n, R: 1, K: 5}, api.Conf{N: 3, W: 16, R: n, K: 5}, api.Conf{N: 3, W: 16, R: 1, K: n})
	}
	return l
}

// P21.1: of a configuration that may not be there is no heap, whatever words it is told.
func TestNoConf(t *testing.T) {
	for _, c := range noConfs() {
		if h, err := heap.New(c); h != nil || err != api.ErrConf {
			t.Errorf("%v: New: %v, %d", c, h, err)
		}
		for _, n := range []int{0, 1, 24 + 1 + 3*16} {
			if h, err := heap.Over(c, make([]uint32, n)); h != nil || err != api.ErrConf {
				t.Errorf("%v: Over %d words: %v, %d", c, n, h, err)
			}
		}
	}
}

// P21.1: a new heap, also one of as many blocks as may be: its slots hold nothing, all its blocks are clean, and it has made no access; and one is not another.
func TestNew(t *testing.T) {
	for _, c := range append([]api.Conf{{N: 262144, W: 16, R: 4096, K: 1}, {N: 16384, W: 256, R: 1, K: 65536}}, confs...) {
		h, err := heap.New(c)
		if err != api.OK || h.Conf() != c || h.Ground().Conf() != c || h.Meter() != 0 {
			t.Fatalf("%v: %d; %v, %d accesses", c, err, h.Conf(), h.Meter())
		}
		var blocks []int
		for b := range c.N {
			blocks = append(blocks, b)
		}
		if h.Clean() != c.N || h.Pending() != 0 || !slices.Equal(pool.List(h.Ground()), blocks) {
			t.Errorf("%v: %d blocks are clean, %d pending", c, h.Clean(), h.Pending())
		}
		for s := range c.R {
			if _, _, err := h.Len(s); err != api.ErrNil {
				t.Fatalf("%v: the slot %d holds something: %d", c, s, err)
			}
		}
		other, _ := heap.New(c)
		other.Alloc(0, 0, 0)
		if same, _ := h.Same(0, c.R-1); !same || h.Clean() != c.N || other.Clean() != c.N-1 {
			t.Errorf("%v: what another heap does is done here", c)
		}
	}
}

// P21.1: Over tells of one word fewer, and of one more, that they are not these; the words are kept as a copy, and are right as they are.
func TestOver(t *testing.T) {
	for _, c := range confs {
		k := open(t, c)
		k.do(t, allocates(0, 1, 1))
		k.do(t, writes(0, 0, 77))
		k.do(t, stores(0, 0, 0))
		words := k.h.Ground().Words()
		n := 24 + c.R + c.N*c.W
		if len(words) != n {
			t.Fatalf("%v: %d words", c, len(words))
		}
		for _, l := range [][]uint32{nil, {}, words[:1], words[:n-1], append(slices.Clone(words), 0), make([]uint32, 2*n)} {
			if h, err := heap.Over(c, l); h != nil || err != api.ErrArg {
				t.Errorf("%v: Over %d words: %v, %d", c, len(l), h, err)
			}
		}
		given := slices.Clone(words)
		h, err := heap.Over(c, given)
		if err != api.OK || h.Conf() != c || h.Meter() != 0 || h.Clean() != c.N-1 || h.Pending() != 0 {
			t.Fatalf("%v: Over: %d; %v, %d accesses", c, err, h.Conf(), h.Meter())
		}
		clear(given)
		same(t, api.Op{}, h.Ground().Words(), words)
		given = slices.Clone(words)
		h, _ = heap.Over(c, given)
		h.Drop(0)
		same(t, api.Op{}, given, words)
		same(t, api.Op{}, k.h.Ground().Words(), words)
	}
}

// P21.1: Conf, Meter, Clean, Pending and Ground tell what the ground does, and make no access; what is done to the ground is done to the heap.
func TestSeen(t *testing.T) {
	k, next := open(t, some), chance(9)
	pending := 0
	for range 500 {
		k.do(t, k.any(next))
		g := k.h.Ground()
		ahead := g.Meter()
		if k.h.Meter() != ahead || k.h.Clean() != len(pool.List(g)) || k.h.Pending() != grave.See(g) || k.h.Conf() != some || k.h.Ground() != g {
			t.Fatalf("%d accesses, not %d; %d are clean, %d pending", k.h.Meter(), ahead, k.h.Clean(), k.h.Pending())
		}
		if g.Meter() != ahead {
			t.Fatalf("%d accesses, as it is seen", g.Meter()-ahead)
		}
		pending = max(pending, k.h.Pending())
	}
	if pending < 2 {
		t.Errorf("%d were pending: that tells too little", pending)
	}
	h, _ := heap.New(small)
	grounds := h.Ground()
	grounds.SetRoot(1, 0)
	pool.Take(grounds)
	if h.Clean() != small.N-1 || h.Meter() != grounds.Meter() || h.Meter() == 0 {
		t.Errorf("%d are clean, %d accesses", h.Clean(), h.Meter())
	}
}

// everyOp answers operations of each kind, with each slot from -1 to the one behind the last, each field from -1 to that number, and some sizes.
func everyOp(c api.Conf, fields int) []api.Op {
	l := []api.Op{ticks()}
	for a := -1; a <= c.R; a++ {
		l = append(l, drops(a), lens(a))
		for _, n := range [][2]int{{0, 0}, {-1, 0}, {0, -1}, {1, 1}, {3, 20}, {9, 0}, {c.W, 2 * c.W}, {100, 0}, {0, 1 << 20}} {
			l = append(l, allocates(a, n[0], n[1]))
		}
		for b := -1; b <= c.R; b++ {
			l = append(l, copies(a, b), sames(a, b))
			for i := -1; i <= fields; i++ {
				l = append(l, loads(a, b, i), stores(a, i, b))
			}
		}
		for i := -1; i <= fields; i++ {
			l = append(l, reads(a, i), writes(a, i, uint32(i*2654435761)))
		}
	}
	return l
}

// P21.2, P21.3, P21.4, P21.5, P21.6, P21.7, P21.8: in each phase of an epoch, each operation that there may be, right or wrong in whatever way, on a heap with objects of each kind, some that are named once, some by themselves, some that are dead and some that are lost.
func TestEveryOperation(t *testing.T) {
	for _, c := range []api.Conf{{N: 1, W: 16, R: 1, K: 3}, small, {N: 12, W: 17, R: 4, K: 40}} {
		amid, errs := [4]int{}, map[api.Errno]int{}
		for _, k := range moments(t, c, 6) {
			amid[k.h.Ground().SeeReg(phase)]++
			for _, o := range everyOp(c, 12) {
				n := k.again(t)
				errs[n.do(t, o).Err]++
				n.alike(t)
			}
		}
		if c.N > 1 && (slices.Min(amid[:]) == 0 || len(errs) != 6) {
			t.Errorf("%v: in the phases were %v, errors %v: that tells too little", c, amid, errs)
		}
	}
}

// moments answers a heap with some objects behind so many parts of an epoch, and in each of its phases.
func moments(t *testing.T, c api.Conf, parts int) []*kept {
	t.Helper()
	k := open(t, c)
	k.furnish(t)
	epoch := round.Run(k.again(t).h.Ground(), math.MaxInt)
	last := api.Idle
	var l []*kept
	for n := range epoch + 1 {
		at := k.h.Ground().SeeReg(phase)
		if at != last || n%(1+epoch/parts) == 0 {
			l = append(l, k.again(t))
		}
		last = at
		pace.Pay(k.h.Ground(), 1)
	}
	return l
}

// furnish lets slots hold objects of some kinds, as far as there are blocks and slots; others are lost, or dead.
func (k *kept) furnish(t *testing.T) {
	t.Helper()
	if k.c.N < 9 {
		k.all(t, allocates(0, 2, 2), stores(0, 1, 0))
		k.h.Ground().SetReg(suspicion, 1)
		return
	}
	// The slot 0 has an object of one block, which names itself and that of the slot 1, of two blocks, whose last pointer field alone names a third one. The slot 3 holds what nobody else names, the slot 2 nothing.
	k.all(t, allocates(0, 3, 2), stores(0, 1, 0), allocates(1, 10, 2), stores(0, 2, 1), stores(1, 0, 0))
	k.all(t, allocates(2, 1, 0), stores(1, 9, 2), stores(2, 0, 1), writes(0, 1, 5), writes(1, 1, 6), allocates(3, 8, 0))
	for !round.Quiet(k.h.Ground()) {
		pace.Pay(k.h.Ground(), 1)
	}
	k.all(t, allocates(2, 1, 0), stores(2, 0, 2), drops(2), allocates(2, 0, 2), drops(2))
}

// P21.2: each slot that a call is told is looked at ahead of all else: one of -1, one behind the last, and such that are far away; the last one is one.
func TestSlots(t *testing.T) {
	for _, c := range confs {
		k := open(t, c)
		last := c.R - 1
		k.all(t, allocates(last, 1, 1), stores(last, 0, last), loads(last, last, 0), writes(last, 0, 3), reads(last, 0), copies(last, last), sames(last, last), lens(last))
		for _, s := range append([]int{-1, c.R, c.R + 1}, far...) {
			for _, good := range []int{0, last} {
				for _, o := range []api.Op{
					allocates(s, 0, 0), allocates(s, -1, 0), allocates(s, 1<<20, 0), drops(s), lens(s), reads(s, 0), reads(s, -1), writes(s, 0, 1), writes(s, 9, 1),
					loads(s, good, 0), loads(good, s, 0), loads(s, good, -1), loads(good, s, 9), loads(s, s, 0), stores(s, 0, good), stores(good, 0, s), stores(s, -1, good), stores(good, 9, s), stores(s, 0, s),
					copies(s, good), copies(good, s), copies(s, s), sames(s, good), sames(good, s), sames(s, s),
				} {
					k.fails(t, o, api.ErrSlot)
				}
			}
		}
		k.all(t, drops(last))
	}
}

// P21.2: of two faults the first one of slot, nothing, field is told; of an Alloc that of slot, size, room.
func TestTwoFaults(t *testing.T) {
	k := open(t, small)
	k.all(t, allocates(0, 2, 1))
	for _, m := range []struct {
		o   api.Op
		err api.Errno
	}{
		{loads(4, 1, 0), api.ErrSlot}, {loads(4, 1, 9), api.ErrSlot}, {loads(4, 0, 9), api.ErrSlot}, {loads(-1, 1, 9), api.ErrSlot}, {loads(0, 1, 9), api.ErrNil}, {loads(1, 1, -1), api.ErrNil}, {loads(1, 0, 2), api.ErrIndex},
		{stores(1, 0, 4), api.ErrSlot}, {stores(1, 9, 4), api.ErrSlot}, {stores(0, 9, 4), api.ErrSlot}, {stores(1, -1, -1), api.ErrSlot}, {stores(1, 9, 0), api.ErrNil}, {stores(1, -1, 1), api.ErrNil}, {stores(0, 2, 1), api.ErrIndex},
		{reads(4, 9), api.ErrSlot}, {reads(1, 9), api.ErrNil}, {reads(1, 0), api.ErrNil}, {reads(0, 1), api.ErrIndex},
		{writes(-1, 9, 1), api.ErrSlot}, {writes(1, -1, 1), api.ErrNil}, {writes(1, 0, 1), api.ErrNil}, {writes(0, 1, 1), api.ErrIndex},
		{copies(4, 1), api.ErrSlot}, {copies(1, 4), api.ErrSlot}, {sames(4, 1), api.ErrSlot}, {sames(1, 4), api.ErrSlot}, {lens(4), api.ErrSlot}, {lens(1), api.ErrNil},
		{allocates(4, -1, 0), api.ErrSlot}, {allocates(4, 60, 60), api.ErrSlot}, {allocates(4, 61, 60), api.ErrSlot}, {allocates(0, 61, 60), api.ErrSize}, {allocates(0, 60, 60), api.ErrFull},
	} {
		k.fails(t, m.o, m.err)
	}
}

// P21.2, P21.4, P21.5: a slot that holds nothing: looked into it tells so, else it is nothing, which is loaded, stored and copied as anything else.
func TestNothingHeld(t *testing.T) {
	k := open(t, small)
	for _, o := range []api.Op{loads(1, 0, 0), stores(0, 0, 1), reads(0, 0), writes(0, 0, 1), lens(0)} {
		k.fails(t, o, api.ErrNil)
	}
	k.all(t, copies(0, 1), copies(1, 1), drops(2), drops(0))
	k.all(t, allocates(0, 2, 0), allocates(1, 1, 1), stores(0, 1, 1), stores(0, 1, 3), loads(1, 0, 1), loads(2, 0, 0))
	for _, s := range []int{1, 2, 3} {
		if a := k.do(t, sames(s, 3)); a.N != 1 {
			t.Errorf("the slot %d holds something", s)
		}
	}
	if k.h.Pending() != 1 {
		t.Errorf("%d are pending", k.h.Pending())
	}
	k.all(t, copies(0, 2), copies(0, 2))
	if k.h.Clean()+k.h.Pending() != small.N {
		t.Errorf("%d are clean, %d pending", k.h.Clean(), k.h.Pending())
	}
}

// P21.2, P21.4, P21.5: the first and the last field of either kind, and those beside, of objects of each size, and of such without fields.
func TestFields(t *testing.T) {
	for _, c := range confs[1:] {
		for _, n := range [][2]int{{0, 0}, {1, 0}, {0, 1}, {3, 5}, {c.W - 8, 0}, {0, c.W - 8}, {c.W - 8, 1}, {2, 2 * c.W}, {2 * c.W, 2}} {
			k := open(t, c)
			k.all(t, allocates(0, n[0], n[1]), copies(1, 0))
			if a := k.do(t, lens(1)); a != (api.Answer{N: n[0], M: n[1]}) {
				t.Errorf("%v: Len: %v, not %v", c, a, n)
			}
			for i := range max(n[0], n[1]) {
				if i < n[0] {
					k.all(t, stores(0, i, i%3), loads(2, 1, i))
				}
				if i < n[1] {
					k.all(t, writes(0, i, uint32(i+1)*2654435761), reads(1, i))
				}
			}
			// All are got once more, now that all were put.
			for i := range max(n[0], n[1]) {
				if i < n[0] {
					k.all(t, loads(3, 0, i))
				}
				if i < n[1] {
					if a := k.do(t, reads(1, i)); a.V != uint32(i+1)*2654435761 {
						t.Errorf("%v: the word %d is %d", c, i, a.V)
					}
				}
			}
			k.alike(t)
			for j, many := range n {
				for _, i := range append([]int{-1, many, many + 1, -c.W, n[0] + n[1] + 1}, far...) {
					l := []api.Op{loads(2, 0, i), stores(0, i, 0), stores(0, i, 3)}
					if j == 1 {
						l = []api.Op{reads(0, i), writes(0, i, 7)}
					}
					for _, o := range l {
						k.fails(t, o, api.ErrIndex)
					}
				}
			}
		}
	}
}

// P21.3: objects of all shapes: below 0, of no fields, the greatest, of one field too many, and with numbers that go round, each at each split of pointer fields and words.
func TestShapes(t *testing.T) {
	for _, c := range []api.Conf{{N: 20, W: 16, R: 2, K: 1}, {N: 20, W: 17, R: 1, K: 2}, {N: 260, W: 256, R: 2, K: 3}} {
		k := open(t, c)
		all := (c.W - 8) * (c.W - 1)
		for _, n := range []int{0, 1, c.W - 9, c.W - 8, c.W - 7, c.W - 1, c.W, 2*c.W - 2, 2*c.W - 1, all - 1, all} {
			for _, nptr := range []int{0, 1, n / 2, n - 1, n} {
				if nptr >= 0 && nptr <= n {
					k.all(t, drops(0), allocates(0, nptr, n-nptr), lens(0))
				}
			}
		}
		k.alike(t)
		for _, n := range [][2]int{{all + 1, 0}, {0, all + 1}, {1, all}, {all, 1}, {all, all}, {-1, 0}, {0, -1}, {-1, -1}, {-1, 2}, {all + 1, -1}} {
			k.fails(t, allocates(0, n[0], n[1]), api.ErrSize)
		}
		for _, n := range far {
			k.fails(t, allocates(0, n, 0), api.ErrSize)
			k.fails(t, allocates(c.R-1, 1, n), api.ErrSize)
			k.fails(t, allocates(0, n, n), api.ErrSize)
		}
	}
}

// P21.3: with just as many blocks clean and pending as the object needs, at each split of both, there is room, and with one too few there is none.
func TestRoom(t *testing.T) {
	c := api.Conf{N: 12, W: 16, R: 5, K: 1}
	for room := 1; room <= 12; room++ {
		for dead := range min(room, 9) + 1 {
			k := open(t, c)
			for range 12 - room {
				k.all(t, allocates(1, 1, 0), stores(1, 0, 0), copies(0, 1))
			}
			if dead > 0 {
				k.all(t, allocates(3, 0, (dead-1)*15), drops(3))
			}
			if k.h.Clean() != room-dead || k.h.Pending() != dead {
				t.Fatalf("%d are clean, %d pending", k.h.Clean(), k.h.Pending())
			}
			if room < 9 {
				k.fails(t, allocates(3, room*15, 0), api.ErrFull)
				k.fails(t, allocates(1, 0, room*15), api.ErrFull)
			}
			if room < 10 {
				k.all(t, allocates(3, (room-1)*15, 0))
				if k.h.Clean() != 0 || k.h.Pending() != 0 {
					t.Errorf("%d are clean, %d pending", k.h.Clean(), k.h.Pending())
				}
				k.fails(t, allocates(4, 0, 0), api.ErrFull)
			}
			k.alike(t)
		}
	}
}

// P21.3: blocks of those that are lost are no room, till an epoch has found them.
func TestLostIsNoRoom(t *testing.T) {
	k := open(t, api.Conf{N: 4, W: 16, R: 1, K: 40})
	k.all(t, allocates(0, 20, 0), stores(0, 0, 0), drops(0))
	k.fails(t, allocates(0, 20, 0), api.ErrFull)
	for k.h.Clean()+k.h.Pending() < 4 {
		k.all(t, ticks())
	}
	k.all(t, allocates(0, 20, 0))
}

// P21.3: as many blocks are freed as the object needs, or as there are, however many are clean; no more, though more are pending.
func TestFreed(t *testing.T) {
	for _, m := range []struct{ dead, need, clean, pending int }{{0, 1, 19, 0}, {1, 1, 19, 0}, {4, 1, 16, 3}, {4, 3, 16, 1}, {4, 4, 16, 0}, {4, 5, 15, 0}, {9, 9, 11, 0}, {9, 2, 11, 7}} {
		c := api.Conf{N: 20, W: 16, R: 2, K: 1}
		k := open(t, c)
		if m.dead > 0 {
			k.all(t, allocates(0, 0, max(m.dead-1, 0)*15), drops(0))
		}
		if k.h.Pending() != m.dead {
			t.Fatalf("%d are pending, not %d", k.h.Pending(), m.dead)
		}
		k.all(t, allocates(1, 0, (m.need-1)*15))
		_, drained, freed := pace.Totals(k.h.Ground())
		if k.h.Clean() != m.clean || k.h.Pending() != m.pending || drained != 0 || freed != min(m.dead, m.need) {
			t.Errorf("%v: %d are clean, %d pending, %d freed", m, k.h.Clean(), k.h.Pending(), freed)
		}
	}
}

// P21.3: into a slot that holds the last name of an object of many blocks: these aren't room yet, and are pending behind it; where there is no room the slot holds it still.
func TestLastNameByAlloc(t *testing.T) {
	for _, m := range []struct{ n, clean, pending int }{{17, 4, 9}, {13, 0, 9}, {12, 0, 0}, {9, 0, 0}} {
		c := api.Conf{N: m.n, W: 16, R: 2, K: 1}
		k := open(t, c)
		k.all(t, allocates(0, 60, 60), writes(0, 59, 8))
		if m.n < 13 {
			k.fails(t, allocates(0, 0, 45), api.ErrFull)
			if a := k.do(t, reads(0, 59)); a.V != 8 {
				t.Errorf("%v: the word is %d", m, a.V)
			}
			continue
		}
		k.all(t, allocates(0, 0, 45))
		if k.h.Clean() != m.clean || k.h.Pending() != m.pending {
			t.Errorf("%v: %d are clean, %d pending", m, k.h.Clean(), k.h.Pending())
		}
		k.alike(t)
	}
}

// P21.4: to and from are one slot: an object that is loaded out of itself, stored into itself, and copied to where it is, also where that is its only name.
func TestOneSlot(t *testing.T) {
	k := open(t, small)
	k.all(t, copies(0, 0), allocates(0, 2, 1), writes(0, 0, 4), copies(0, 0), stores(0, 1, 0), copies(0, 0), loads(0, 0, 1))
	if a := k.do(t, reads(0, 0)); a.V != 4 {
		t.Errorf("the word is %d", a.V)
	}
	k.alike(t)
	// It isn't held any more, where its own field holds nothing, but names itself still.
	k.all(t, loads(0, 0, 0))
	if k.h.Pending() != 0 || k.h.Clean() != small.N-1 {
		t.Errorf("%d are clean, %d pending", k.h.Clean(), k.h.Pending())
	}
	k.fails(t, loads(0, 0, 0), api.ErrNil)
	k.fails(t, stores(0, 0, 0), api.ErrNil)
	// A row is gone along by one slot alone.
	for range 3 {
		k.all(t, allocates(1, 1, 1), stores(1, 0, 0), copies(0, 1))
	}
	k.all(t, drops(1), loads(0, 0, 0), loads(0, 0, 0), lens(0), loads(0, 0, 0))
	k.fails(t, lens(0), api.ErrNil)
	for range 500 {
		k.all(t, ticks())
	}
	if k.h.Clean() != small.N {
		t.Errorf("%d are clean, %d pending", k.h.Clean(), k.h.Pending())
	}
}

// P21.4: who is named by one slot, or one field, alone is taken back as that holds something else, or nothing, by each operation that can do so, in each phase of an epoch; who is named twice isn't.
func TestLastNames(t *testing.T) {
	// Each takes the only name away of the object of two blocks; the last operations hold it once more ahead.
	for i, l := range [][]api.Op{
		{drops(1)}, {copies(1, 2)}, {copies(1, 0)}, {loads(1, 0, 0)}, {loads(1, 0, 1)}, {allocates(1, 0, 0)},
		{stores(0, 0, 1), drops(1), stores(0, 0, 2)}, {stores(0, 0, 1), drops(1), stores(0, 0, 0)}, {stores(0, 1, 1), drops(1), drops(0), ticks()},
		{copies(3, 1), drops(1), drops(3)}, {stores(0, 0, 1), loads(2, 0, 0), stores(0, 0, 3), drops(2), copies(1, 0)},
	} {
		c := api.Conf{N: 12, W: 16, R: 4, K: 17}
		k := open(t, c)
		k.all(t, allocates(0, 2, 0), allocates(1, 10, 0))
		k.h.Ground().SetReg(suspicion, 1)
		epoch := round.Run(k.again(t).h.Ground(), math.MaxInt)
		amid := [4]int{}
		for range epoch + 1 {
			n := k.again(t)
			amid[n.h.Ground().SeeReg(phase)]++
			n.all(t, l[:len(l)-1]...)
			if n.h.Pending() != 0 && l[len(l)-1].Kind != api.OpTick {
				t.Fatalf("%d: %d are pending too early", i, n.h.Pending())
			}
			n.all(t, l[len(l)-1])
			n.alike(t)
			if n.h.Clean()+n.h.Pending() != c.N-n.live() || n.live() > 2 {
				t.Fatalf("%d: %d are clean, %d pending", i, n.h.Clean(), n.h.Pending())
			}
			pace.Pay(k.h.Ground(), 1)
		}
		if slices.Min(amid[:]) == 0 {
			t.Errorf("%d: in the phases were %v: that tells too little", i, amid)
		}
	}
}

// P21.5: two slots are the same just if they hold one object, or both nothing; objects that are alike in all else aren't.
func TestSame(t *testing.T) {
	k := open(t, some)
	k.all(t, allocates(0, 1, 1), allocates(1, 1, 1), copies(2, 0), stores(1, 0, 0), loads(3, 1, 0))
	want := [][]int{{0, 2, 3}, {1}, {0, 2, 3}, {0, 2, 3}, {4, 5}, {4, 5}}
	for a := range want {
		for b := range want {
			same, err := k.h.Same(a, b)
			if same != slices.Contains(want[a], b) || err != api.OK {
				t.Errorf("Same(%d, %d): %v, %d", a, b, same, err)
			}
			k.do(t, sames(a, b))
		}
	}
}

// P21.5: what is written is read, by whatever slot, till something else is; a word holds any number of 32 bits.
func TestWords(t *testing.T) {
	k := open(t, some)
	k.all(t, allocates(0, 2, 30), copies(1, 0), allocates(2, 0, 3), stores(0, 1, 2))
	for _, v := range []uint32{0, 1, 2, 41, 1 << 20, 1<<31 - 1, 1 << 31, most - 1, most} {
		k.all(t, writes(0, 29, v), writes(1, 0, v^7), writes(2, 1, v^9), loads(3, 1, 1))
		for _, m := range []struct {
			slot, i int
			v       uint32
		}{{1, 29, v}, {0, 0, v ^ 7}, {3, 1, v ^ 9}, {2, 0, 0}, {0, 28, 0}} {
			if a := k.do(t, reads(m.slot, m.i)); a.V != m.v {
				t.Errorf("the word %d is %d, not %d", m.i, a.V, m.v)
			}
		}
	}
	k.alike(t)
}

// P21.6: what is due is paid, where there is enough to do: K for each block of an Alloc, K of a tick, 1 of a Load, a Store, a Copy and a Drop, of all else nothing; of each that tells an error nothing.
func TestPays(t *testing.T) {
	for _, k := range []int{1, 2, 5, 50} {
		// There is never room for as many blocks as an object may have.
		c := api.Conf{N: 197, W: 16, R: 3, K: k}
		n := open(t, c)
		n.all(t, allocates(0, 60, 60))
		for range 180 {
			n.all(t, allocates(1, 8, 0), stores(1, 0, 0), copies(0, 1))
		}
		for _, m := range []struct {
			o   api.Op
			due int
		}{
			{allocates(2, 3, 5), k}, {allocates(1, 3, 5), k}, {allocates(1, 3, 6), 2 * k}, {allocates(2, 40, 0), 4 * k}, {ticks(), k},
			{loads(2, 0, 0), 1}, {loads(2, 0, 7), 1}, {stores(0, 1, 0), 1}, {stores(0, 1, 2), 1}, {copies(1, 0), 1}, {copies(1, 1), 1}, {copies(1, 2), 1}, {drops(1), 1}, {drops(1), 1},
			{allocates(1, 0, 2), k}, {reads(1, 0), 0}, {writes(1, 0, 3), 0}, {sames(1, 2), 0}, {sames(2, 2), 0}, {lens(0), 0},
			{allocates(3, 0, 0), 0}, {allocates(1, -1, 0), 0}, {allocates(1, 0, 120), 0}, {loads(1, 2, 0), 0}, {loads(1, 0, 8), 0}, {loads(3, 0, 0), 0}, {stores(2, 0, 0), 0}, {stores(0, -1, 0), 0}, {stores(0, 0, 3), 0},
			{copies(3, 0), 0}, {copies(0, -1), 0}, {drops(3), 0}, {drops(-1), 0}, {reads(2, 0), 0}, {writes(0, 0, 1), 0}, {sames(0, 3), 0}, {lens(3), 0}, {lens(2), 0},
		} {
			// An epoch of so many objects is under way from its first unit on.
			x := n.again(t)
			for x.h.Ground().SeeReg(phase) != api.Idle {
				pace.Pay(x.h.Ground(), 1)
			}
			x.h.Ground().SetReg(suspicion, 1)
			pace.Pay(x.h.Ground(), 1)
			ahead := x.h.Ground().SeeReg(paid)
			x.do(t, m.o)
			n.do(t, m.o)
			if got := x.h.Ground().SeeReg(paid) - ahead; got != m.due {
				t.Errorf("%v: %v pays %d, not %d", c, m.o, got, m.due)
			}
		}
	}
}

// P21.6: of a nil heap there is nothing.
func TestNilHeap(t *testing.T) {
	var h *heap.Heap
	for _, s := range append([]int{0, 1, -1}, far...) {
		for _, i := range append([]int{0, 1, -1}, far...) {
			for _, o := range []api.Op{allocates(s, i, 0), allocates(0, s, i), loads(s, 0, i), loads(0, s, i), stores(s, i, 0), stores(0, i, s), reads(s, i), writes(s, i, 1), copies(s, i), drops(s), sames(s, i), sames(s, s), lens(s), ticks()} {
				if a := call(h, o); a != (api.Answer{Err: api.ErrConf}) {
					t.Errorf("%v: %v", o, a)
				}
			}
		}
	}
	if h.Conf() != (api.Conf{}) || h.Meter() != 0 || h.Clean() != 0 || h.Pending() != 0 || h.Ground() != nil {
		t.Errorf("%v, %d, %d, %d", h.Conf(), h.Meter(), h.Clean(), h.Pending())
	}
}
