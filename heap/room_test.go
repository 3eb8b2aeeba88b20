package heap_test

import (
	"testing"

	"quitrent/api"
	"quitrent/heap"
	"quitrent/pace"
	"quitrent/plan"
	"quitrent/round"
)

// plain does an operation, and tells where it answers something else than it has to.
func (k *kept) plain(t *testing.T, o api.Op) api.Answer {
	t.Helper()
	want := k.answer(o)
	got := call(k.h, o)
	if got != want {
		t.Fatalf("%v: %v: %v, not %v", k.c, o, got, want)
	}
	return got
}

// plains does operations one behind the other, none of which tells an error.
func (k *kept) plains(t *testing.T, l ...api.Op) {
	t.Helper()
	for _, o := range l {
		if a := k.plain(t, o); a.Err != api.OK {
			t.Fatalf("%v: %v: %d, and %d are clean, %d pending", k.c, o, a.Err, k.h.Clean(), k.h.Pending())
		}
	}
}

// spare is how many blocks those that can be reached may have together, for there to be room.
func spare(t *testing.T, c api.Conf) int {
	t.Helper()
	n, err := plan.Of(c)
	if err != api.OK || n.Lag >= c.N {
		t.Fatalf("%v: %d, %d of %d blocks", c, err, n.Lag, c.N)
	}
	return c.N - n.Lag
}

// fieldsFor is how many fields an object of so many leaves has at most.
func fieldsFor(c api.Conf, leaves int) int {
	if leaves == 0 {
		return c.W - 8
	}
	return leaves * (c.W - 1)
}

// renter asks for blocks as long as those that can be reached have no more than may be, and knows how few of those that Lag leaves were there ahead of some Alloc, beside those that it needed.
type renter struct {
	*kept
	spare, live, left int
}

// rents answers who does so on a heap by whose slots nothing is held.
func rents(t *testing.T, k *kept) *renter {
	t.Helper()
	return &renter{k, spare(t, k.c), 0, k.c.N}
}

// asks does an Alloc that there has to be room for.
func (r *renter) asks(t *testing.T, slot, nptr int) {
	t.Helper()
	o := allocates(slot, nptr, 0)
	if r.live += r.blocksOf(o); r.live > r.spare {
		t.Fatalf("%v: %d blocks are asked for, of %d", r.c, r.live, r.spare)
	}
	r.left = min(r.left, r.room()-r.blocksOf(o))
	r.plains(t, o)
}

// row has objects of so many leaves made in a row, each of which names itself, too, as long as there are so many blocks left: by the slot 0 all are held.
func (r *renter) row(t *testing.T, leaves, left int) {
	t.Helper()
	fields := fieldsFor(r.c, leaves)
	for r.live+1+leaves+left <= r.spare {
		r.asks(t, 1, fields)
		r.plains(t, stores(1, fields-1, 1), stores(1, 0, 0), copies(0, 1))
	}
	r.plains(t, drops(1))
}

// loses lets a whole row be lost at once, behind so many ticks, and drops, and has another one made, several times.
func (r *renter) loses(t *testing.T, leaves, ticked, dropped int) {
	t.Helper()
	for range 3 {
		r.row(t, leaves, 0)
		for range ticked {
			r.plains(t, ticks())
		}
		for range dropped {
			r.plains(t, drops(1))
		}
		r.plains(t, drops(0))
		r.live = 0
	}
}

// churns has a row made that stays, and loses one object of so many leaves behind the other, while some epochs end. Each takes the last blocks that there may be.
func (r *renter) churns(t *testing.T, leaves, lost int) {
	t.Helper()
	r.row(t, leaves, 1+lost)
	// What is still left is filled up by objects of one block.
	r.row(t, 0, 1+lost)
	if r.live+1+lost != r.spare {
		t.Fatalf("%v: %d blocks, of %d", r.c, r.live, r.spare)
	}
	g := r.h.Ground()
	for first := g.SeeReg(18); g.SeeReg(18) < first+5; {
		r.asks(t, 1, fieldsFor(r.c, lost))
		r.plains(t, stores(1, 0, 1), drops(1))
		r.live -= 1 + lost
	}
	r.plains(t, drops(0))
	r.live = 0
}

// roomy are configurations whose Lag leaves some blocks; of them few, half, most, and of wide blocks.
var roomy = []api.Conf{{N: 60, W: 16, R: 2, K: 200}, {N: 200, W: 16, R: 2, K: 130}, {N: 300, W: 16, R: 4, K: 400}, {N: 60, W: 17, R: 3, K: 65536}, {N: 250, W: 16, R: 2, K: 600}, {N: 200, W: 32, R: 2, K: 1500}}

// P21.9: as long as what can be reached, and what is asked for, has at most the blocks that Lag leaves, there is room: also where all is lost at once, at whatever time, and where object after object is lost, of one block and of as many as there may be.
func TestThereIsRoom(t *testing.T) {
	used := 0
	for _, c := range roomy {
		numbers, _ := plan.Of(c)
		for _, leaves := range []int{0, 1, numbers.Leaves} {
			for i := range 4 {
				r := rents(t, open(t, c))
				if 1+leaves > r.spare {
					continue
				}
				r.loses(t, leaves, i*numbers.Epoch/c.K/3, i*c.K/17%100)
				used = max(used, 100*(numbers.Lag-r.left)/numbers.Lag)
			}
			for _, lost := range []int{0, 1, numbers.Leaves} {
				r := rents(t, open(t, c))
				if 1+lost > r.spare {
					continue
				}
				r.churns(t, leaves, lost)
				used = max(used, 100*(numbers.Lag-r.left)/numbers.Lag)
			}
		}
	}
	if used < 40 {
		t.Errorf("no more than %d of a hundred that Lag leaves were taken: that tells too little", used)
	}
}

// P21.9: at just the room that Lag leaves, with no more than one object, of one block or of many.
func TestJustTheRoom(t *testing.T) {
	// So many blocks that Lag leaves just 1, just 9, and just 10.
	for _, left := range []int{1, 9, 10} {
		c := api.Conf{N: 1, W: 16, R: 2, K: 1000}
		for c.N < 100 {
			n, _ := plan.Of(c)
			if c.N-n.Lag == left {
				break
			}
			c.N++
		}
		r := rents(t, open(t, c))
		for range 300 {
			r.asks(t, 0, fieldsFor(c, min(left, 9)-1))
			r.plains(t, stores(0, 0, 0), drops(0))
			r.live = 0
		}
	}
}

// P21.9: whatever else is done between.
func TestThereIsRoomForAny(t *testing.T) {
	for _, c := range []api.Conf{{N: 60, W: 16, R: 5, K: 200}, {N: 120, W: 16, R: 9, K: 600}, {N: 48, W: 16, R: 9, K: 65536}} {
		top := 0
		for seed := range 6 {
			k, next := open(t, c), chance(uint32(c.N+seed))
			may := spare(t, c)
			for i := range 2500 {
				o, live := k.any(next), k.live()
				if a := next(c.R); i/300%2 == 0 && live < may {
					// A row gets longer by one.
					k.plain(t, allocates(0, 2, next(7)))
					k.plain(t, stores(0, 0, a))
					k.plain(t, copies(a, 0))
					continue
				}
				if o.Kind == api.OpAlloc && live+k.blocksOf(o) > may && k.wrong(o) == api.OK {
					k.plain(t, drops(next(c.R)))
					continue
				}
				if a := k.plain(t, o); a.Err == api.ErrFull {
					t.Fatalf("%v: %v: there is no room, and %d are reached", c, o, live)
				}
				top = max(top, k.live())
			}
		}
		if top < spare(t, c)*9/10 {
			t.Errorf("%v: no more than %d blocks were reached: that tells too little", c, top)
		}
	}
}

// settle does as many ticks as it takes till all is found, and tells where that isn't so then. It answers whether it wasn't so ahead of them.
func (k *kept) settle(t *testing.T) bool {
	t.Helper()
	ahead := k.settled(t)
	numbers, _ := plan.Of(k.c)
	for range numbers.Settle {
		k.plains(t, ticks())
	}
	if why := k.settled(t); why != "" {
		t.Fatalf("%v: behind %d ticks %s", k.c, numbers.Settle, why)
	}
	return ahead != ""
}

// P21.10: whatever was done: behind as many ticks as Settle says all blocks but those of what can be reached are clean, and all counts are right. Then it goes on.
func TestSettle(t *testing.T) {
	for _, c := range []api.Conf{{N: 1, W: 16, R: 1, K: 1}, {N: 5, W: 16, R: 2, K: 1}, {N: 9, W: 16, R: 4, K: 65536}, small, {N: 24, W: 17, R: 3, K: 1}, some, {N: 120, W: 16, R: 9, K: 60}} {
		todo, seen := 0, [4]int{}
		for seed := range 30 {
			k, next := open(t, c), chance(uint32(c.N*1000+seed))
			for range 4 {
				for range 30 + 5*min(c.N, 30) + next(60) {
					k.plain(t, k.any(next))
				}
				seen[k.h.Ground().SeeReg(phase)]++
				if k.settle(t) {
					todo++
				}
			}
		}
		if todo < 60 || c.N > 1 && c.K < 100 && (seen[1] == 0 || seen[2] == 0 || seen[3] == 0) {
			t.Errorf("%v: there was something to find %d times, in the phases were %v: that tells too little", c, todo, seen)
		}
	}
}

// P21.10: all blocks are those of objects that all name one another, each in a slot of its own, and all are dropped, at any moment of an epoch: behind Settle ticks all of them are found.
func TestSettleLate(t *testing.T) {
	latest := 0
	for _, m := range []struct {
		c      api.Conf
		leaves int
	}{{api.Conf{N: 12, W: 16, R: 12, K: 1}, 0}, {api.Conf{N: 12, W: 16, R: 6, K: 1}, 1}, {api.Conf{N: 27, W: 16, R: 3, K: 7}, 8}, {api.Conf{N: 18, W: 24, R: 3, K: 40}, 5}} {
		numbers, _ := plan.Of(m.c)
		k, fields := open(t, m.c), fieldsFor(m.c, m.leaves)
		for s := range m.c.R {
			k.plains(t, allocates(s, fields, 0))
		}
		for s := range m.c.R {
			for i := range fields {
				k.plains(t, stores(s, i, (s+i)%m.c.R))
			}
		}
		for round.Step(k.h.Ground()) {
		}
		k.h.Ground().SetReg(suspicion, 1)
		for !round.Quiet(k.h.Ground()) {
			n := k.again(t)
			for s := range m.c.R {
				n.plains(t, drops(s))
			}
			took := 0
			for ; n.settled(t) != ""; took++ {
				if took == numbers.Settle {
					t.Fatalf("%v: behind %d ticks %s", m.c, took, n.settled(t))
				}
				n.plains(t, ticks())
			}
			latest = max(latest, 100*took/numbers.Settle)
			pace.Pay(k.h.Ground(), 1+numbers.Epoch/30)
		}
	}
	if latest < 45 {
		t.Errorf("the latest took %d of a hundred of the ticks: that tells too little", latest)
	}
}

// P21.10: whatever was there ahead, with the heap full, lost and dead: behind Settle ticks there is room as of a new heap.
func TestRoomBehindSettle(t *testing.T) {
	for _, c := range []api.Conf{{N: 60, W: 16, R: 5, K: 200}, {N: 150, W: 16, R: 3, K: 300}, {N: 50, W: 17, R: 3, K: 65536}} {
		numbers, _ := plan.Of(c)
		for seed := range 6 {
			k, next := open(t, c), chance(uint32(seed))
			for range 100 * seed {
				k.plain(t, k.any(next))
			}
			full := false
			for !full {
				k.plain(t, allocates(1, c.W-8, 0))
				k.plain(t, stores(1, 7, 0))
				k.plain(t, stores(1, next(7), 1))
				full = k.plain(t, copies(0, 1)).Err == api.OK && k.room() == 0
			}
			if k.live() < c.N/2 {
				t.Errorf("%v: %d blocks are reached: that tells too little", c, k.live())
			}
			for s := range c.R {
				k.plains(t, drops(s))
			}
			if seed%2 == 1 && 0 < k.room() {
				k.plain(t, allocates(0, 1, 0))
				k.plain(t, stores(0, 0, 0))
				k.plain(t, drops(0))
			}
			k.settle(t)
			r := rents(t, k)
			r.loses(t, seed%9, seed*numbers.Epoch/c.K/8, 0)
			r.churns(t, 1, 0)
			r.loses(t, 0, 0, 3*seed)
		}
	}
}

// P21.8: at the least and the greatest W, R and K, as many blocks as there may be, a long grave, a long ring, and the greatest objects: no call makes more accesses than Pause says of its kind, nor one that tells an error more than 512.
func TestPauses(t *testing.T) {
	for _, n := range []struct{ n, w int }{{262144, 16}, {16384, 256}} {
		for _, r := range []int{1, 4096} {
			for _, k := range []int{1, 65536} {
				paused(t, api.Conf{N: n.n, W: n.w, R: r, K: k})
			}
		}
	}
}

// paused does operations of all kinds, right and wrong ones, on a heap that gets full, and of which much is lost and dead.
func paused(t *testing.T, c api.Conf) {
	t.Helper()
	h, err := heap.New(c)
	if err != api.OK {
		t.Fatalf("%v: %d", c, err)
	}
	last, all := c.R-1, (c.W-8)*(c.W-1)
	// With many units for each block all is done within few calls.
	rounds := 30
	if c.K > 1 {
		rounds = 6
	}
	long := func(l ...api.Op) {
		t.Helper()
		for _, o := range l {
			measured(t, h, o)
		}
	}
	for i := range min(h.Clean()/3, 600_000/c.K+rounds) {
		if i%(all/2) == 0 {
			// The greatest object names itself, and the one ahead of it by its last field.
			long(allocates(last, all, 0), stores(last, all-1, 0), stores(last, 0, last), copies(0, last))
		}
		long(allocates(last, c.W-8, 0), stores(last, 1, last), stores(0, 1+i%(all-2), last))
		if i%50 == 0 {
			long(loads(last, 0, i%all), reads(last, 0), lens(last), sames(0, last), copies(last, 0), allocates(last, 0, 3), writes(last, 2, 9), reads(last, 2))
		}
	}
	for _, bad := range []int{-1, c.R} {
		long(allocates(bad, 1, 0), allocates(0, all, 1), loads(bad, 0, 0), loads(0, 0, all), stores(0, all, 0), stores(0, 0, bad), reads(0, 0), writes(0, 0, 0), copies(0, bad), drops(bad), sames(bad, 0), lens(bad))
	}
	for i := range rounds {
		n := i * all / (rounds - 1)
		long(loads(0, 0, all-1), ticks(), allocates(last, 1, n-1), allocates(last, n, 0), stores(last, 0, 0))
	}
	for range rounds {
		long(drops(0), drops(last), ticks(), allocates(0, all, 0), allocates(0, 0, all))
	}
}

// measured does an operation, and tells where it makes more accesses than it may.
func measured(t *testing.T, h *heap.Heap, o api.Op) {
	t.Helper()
	blocks := 0
	if o.Kind == api.OpAlloc {
		blocks = (&kept{c: h.Conf()}).blocksOf(o)
	}
	ahead := h.Meter()
	a := call(h, o)
	most := plan.Pause(h.Conf(), o.Kind, blocks)
	if a.Err != api.OK {
		most = 512
	}
	if n := h.Meter() - ahead; n > uint64(most) {
		t.Errorf("%v: %v: %d, and %d accesses, at most %d", h.Conf(), o, a.Err, n, most)
	}
}

// P21.1 to P21.5: over words that no heap had nothing is promised but that each call ends.
func TestSetOtherwise(t *testing.T) {
	values := []uint32{0, 1, 2, 3, 5, 6, 9, 10, 1 << 20, 1 << 31, most}
	done := map[int]int{}
	for seed := range 2000 {
		next := chance(uint32(seed))
		// Of some heaps few words are wrong, of some most.
		k := open(t, small)
		for range 10 {
			k.plain(t, k.any(next))
		}
		l := k.h.Ground().Words()
		for range 1 << (seed % 9) {
			l[next(len(l))] = values[next(len(values))]
			l[next(24+small.R)] = values[next(len(values))]
		}
		h, err := heap.Over(small, l)
		if err != api.OK {
			t.Fatal("Over", err)
		}
		h.Clean()
		h.Pending()
		for range 4 {
			for a := range 3 {
				for _, o := range []api.Op{loads(a, a+1, 0), stores(a+1, 0, a), reads(a, 0), writes(a, 1, 7), lens(a), sames(a, 3), allocates(a, 1, 20), copies(a, 3), allocates(a, 60, 60), drops(a), ticks()} {
					if call(h, o).Err == api.OK {
						done[o.Kind]++
					}
				}
			}
		}
	}
	if len(done) < 10 {
		t.Errorf("of the kinds were done %v: that tells too little", done)
	}
}
