package pace_test

import (
	"math"
	"slices"
	"testing"

	"quitrent/api"
	"quitrent/grave"
	"quitrent/ground"
	"quitrent/link"
	"quitrent/pace"
	"quitrent/plan"
	"quitrent/pool"
	"quitrent/round"
)

// kinds are all kinds of operations there are, in their order.
var kinds = []int{api.OpAlloc, api.OpLoad, api.OpStore, api.OpRead, api.OpWrite, api.OpCopy, api.OpDrop, api.OpSame, api.OpLen, api.OpTick}

// noKinds are numbers that are no kind of operation; some would be one, if they were cut to fewer bits.
var noKinds = []int{math.MinInt, -1 << 32, -1<<32 + 1, -10, -1, 0, 11, 12, 100, 257, 1<<32 + 1, 1<<32 + 10, math.MaxInt}

// someBlocks are numbers of blocks below 0, 0, and above all that an object has.
var someBlocks = []int{math.MinInt, -1 << 62, -1 << 32, -1, 0, 250, 1 << 20, 1 << 32, 1<<32 + 1, 1 << 50, 1 << 62, math.MaxInt}

// P20.1: the chapter's example.
func TestExample(t *testing.T) {
	c := api.Conf{N: 10, W: 16, R: 1, K: 5}
	if n := pace.Due(c, api.OpAlloc, 3); n != 15 {
		t.Errorf("of an Alloc of 3 blocks is due %d", n)
	}
	if n := pace.Due(c, api.OpLoad, 3); n != 1 {
		t.Errorf("of a Load is due %d", n)
	}
	if n := pace.Due(c, api.OpRead, 3); n != 0 {
		t.Errorf("of a Read is due %d", n)
	}
}

// P20.1: of an Alloc K is due for each block, of fewer than none as of none, of more than an object has as of so many.
func TestDueOfAlloc(t *testing.T) {
	for _, w := range []int{16, 17, 100, 255, 256} {
		for _, k := range []int{1, 2, 5, 1000, 65535, 65536} {
			c := api.Conf{N: 3, W: w, R: 1, K: k}
			// As many leaves as there are words behind the head, and the head.
			most := w - 8 + 1
			want := 0
			for blocks := range most + 1 {
				if got := pace.Due(c, api.OpAlloc, blocks); got != want {
					t.Errorf("%v: of %d blocks is due %d, not %d", c, blocks, got, want)
				}
				want += k
			}
			for _, blocks := range append([]int{most + 1, most + 2}, someBlocks...) {
				want := 0
				if blocks > 0 {
					want = most * k
				}
				if got := pace.Due(c, api.OpAlloc, blocks); got != want {
					t.Errorf("%v: of %d blocks is due %d, not %d", c, blocks, got, want)
				}
			}
		}
	}
}

// P20.1: of each other kind of operation so much is due, of however many blocks; of what is none nothing is.
func TestDueOfKinds(t *testing.T) {
	for _, c := range []api.Conf{{N: 1, W: 16, R: 1, K: 1}, {N: 9, W: 16, R: 3, K: 7}, {N: 16384, W: 256, R: 4096, K: 65536}} {
		want := []int{0, 1, 1, 0, 0, 1, 1, 0, 0, c.K}
		for _, blocks := range append([]int{1, 2, 9, 10, 249}, someBlocks...) {
			for i, kind := range kinds[1:] {
				if got := pace.Due(c, kind, blocks); got != want[i+1] {
					t.Errorf("%v: of the kind %d is due %d, not %d", c, kind, got, want[i+1])
				}
			}
			for _, kind := range noKinds {
				if got := pace.Due(c, kind, blocks); got != 0 {
					t.Errorf("%v: of the kind %d is due %d", c, kind, got)
				}
			}
		}
	}
}

// P20.1: of a configuration that may not be nothing is due, whatever is wrong with it.
func TestDueOfNoConf(t *testing.T) {
	confs := []api.Conf{{}, {N: 1048576, W: 16, R: 1, K: 1}, {N: 16385, W: 256, R: 1, K: 1}, {N: 262145, W: 16, R: 1, K: 1}}
	for _, n := range []int{math.MinInt, -1, 0, math.MaxInt} {
		confs = append(confs, api.Conf{N: n, W: 16, R: 1, K: 5}, api.Conf{N: 3, W: n, R: 1, K: 5}, api.Conf{N: 3, W: 16, R: n, K: 5}, api.Conf{N: 3, W: 16, R: 1, K: n})
	}
	confs = append(confs, api.Conf{N: 3, W: 15, R: 1, K: 5}, api.Conf{N: 3, W: 257, R: 1, K: 5}, api.Conf{N: 3, W: 16, R: 4097, K: 5}, api.Conf{N: 3, W: 16, R: 1, K: 65537})
	for _, c := range confs {
		for _, kind := range append(kinds, noKinds...) {
			for _, blocks := range append([]int{1, 3}, someBlocks...) {
				if n := pace.Due(c, kind, blocks); n != 0 {
					t.Errorf("%v: of the kind %d is due %d", c, kind, n)
				}
			}
		}
	}
}

// P20.2, P20.3: in any phase of an epoch, with objects dead and lost, each call does as many pieces of its work as it is told, also one behind the other, and none where n is below 0, or 0; where there are fewer, it answers how many there were. What was done, and nothing else, is added to the register.
func TestSoMany(t *testing.T) {
	for _, c := range confs {
		for _, x := range calls() {
			least, amid := math.MaxInt, [4]int{}
			for _, units := range moments(t, c, 15) {
				k := open(t, c)
				k.some(t, chance(uint32(units)), units)
				amid[k.g.SeeReg(phase)]++
				start := k.g.Words()
				all := k.call(t, x, math.MaxInt)
				least = min(least, all)
				for _, n := range []int{math.MinInt, -1 << 62, -1 << 32, -1<<32 + 1, -2, -1, 0} {
					k.load(start)
					if got := k.call(t, x, n); got != 0 {
						t.Errorf("%v: %s(%d): %d", c, x.name, n, got)
					}
				}
				for _, n := range []int{1, 2, 3, 7, all - 1, all, all + 1, 2 * all, 1 << 31, 1 << 32, 1<<32 + 1} {
					k.load(start)
					if got := k.call(t, x, n); got != max(min(n, all), 0) {
						t.Errorf("%v: %s(%d): %d, of %d", c, x.name, n, got, all)
					}
				}
				k.load(start)
				for left := all; left > 0; {
					left -= k.call(t, x, 1+left/3)
				}
				if k.call(t, x, 9) != 0 {
					t.Errorf("%v: %s: there is more than %d", c, x.name, all)
				}
			}
			if slices.Min(amid[:]) == 0 || least < 2 && c.N > 1 {
				t.Errorf("%v: %s: in the phases were %v, and there is no more than %d: that tells too little", c, x.name, amid, least)
			}
		}
	}
}

// P20.2, P20.3: where there is nothing to do, nothing is done: of a new ground, with objects that are held, and once all is done that was.
func TestNothingToDo(t *testing.T) {
	for _, c := range confs {
		k := open(t, c)
		for form := range 3 {
			switch form {
			case 1:
				k.born(t, 0, 1, chance(1))
			case 2:
				k.some(t, chance(1), 3)
				pace.Drain(k.g, math.MaxInt)
				pace.Pay(k.g, math.MaxInt)
				pace.Free(k.g, math.MaxInt)
				k.words = k.g.Words()
			}
			for _, x := range calls() {
				for _, n := range []int{math.MinInt, -1, 0, 1, 2, 1000, 1 << 32, math.MaxInt} {
					if got := k.call(t, x, n); got != 0 {
						t.Errorf("%v, %d: %s(%d): %d", c, form, x.name, n, got)
					}
				}
			}
			k.tick(t)
		}
	}
}

// P20.2: an object of more blocks than it is asked for: Free makes just so many clean, and the others stay pending; the steps that it takes for that aren't counted among those of Drain, nor are the blocks that Drain makes clean among those of Free.
func TestFreeInPieces(t *testing.T) {
	k := open(t, small)
	// A head and three leaves each.
	k.dead(t, 0, 45)
	k.dead(t, 45, 0)
	k.setReg(drained, 0)
	k.setReg(freed, 0)
	free := calls()[2]
	for _, n := range []struct{ asked, clean, pending, freed int }{{1, 2, 7, 1}, {2, 4, 5, 3}, {0, 4, 5, 3}, {3, 7, 2, 6}, {-3, 7, 2, 6}} {
		k.call(t, free, n.asked)
		p, d, f := pace.Totals(k.g)
		if pool.Len(k.g) != n.clean || grave.Pending(k.g) != n.pending || p != 500+paid || d != 0 || f != n.freed {
			t.Errorf("behind %v: %d blocks are clean, %d pending, and Totals: %d, %d, %d", n, pool.Len(k.g), grave.Pending(k.g), p, d, f)
		}
	}
	// Two leaves were shed, so the fields of the first one are left, and this leaf, and the head.
	if n := pace.Drain(k.g, 16); n != 16 || pool.Len(k.g) != 8 {
		t.Errorf("%d steps, and %d blocks are clean", n, pool.Len(k.g))
	}
	if n := pace.Free(k.g, 9); n != 1 || pool.Len(k.g) != 9 {
		t.Errorf("%d blocks, and %d are clean", n, pool.Len(k.g))
	}
	if _, d, f := pace.Totals(k.g); d != 16 || f != 7 {
		t.Errorf("Totals: %d, %d", d, f)
	}
}

// P20.2: as Free goes on, those are buried whom the dead ones named: their blocks are made clean likewise, as many as it is asked for.
func TestFreeOfOwned(t *testing.T) {
	k := open(t, some)
	var l []int
	for range 8 {
		l = append(l, k.born(t, 2, 1, chance(2)))
	}
	for i, r := range l[1:] {
		link.Put(k.g, l[i], i%2, r)
		link.Let(k.g, r)
	}
	link.Let(k.g, l[0])
	k.words = k.g.Words()
	free := calls()[2]
	for i, n := range []int{1, 2, 4, 1, 1} {
		clean := pool.Len(k.g)
		want := n
		if i == 4 {
			want = 0
		}
		if got := k.call(t, free, n); got != want || pool.Len(k.g) != clean+want {
			t.Errorf("%d, Free(%d): %d, and %d blocks are clean, which were %d", i, n, got, pool.Len(k.g), clean)
		}
	}
	if pool.Len(k.g) != some.N {
		t.Errorf("%d blocks are clean", pool.Len(k.g))
	}
}

// P20.2: the registers 19, 20 and 21 go round at 2^32, each by itself.
func TestGoRound(t *testing.T) {
	for _, x := range calls() {
		for _, n := range []int{1, 2, 3} {
			for _, v := range []int{0, 1<<31 - 1, 1 << 31, most - 3, most - 2, most - 1, most} {
				k := open(t, some)
				k.dead(t, 40, 0)
				k.born(t, 3, 1, chance(3))
				k.setReg(x.reg, v)
				if got := k.call(t, x, n); got != n {
					t.Fatalf("%s(%d): %d", x.name, n, got)
				}
				want := v + n
				if want > most {
					want -= most + 1
				}
				if got := k.g.SeeReg(x.reg); got != want {
					t.Errorf("%s(%d) behind %d: %d, not %d", x.name, n, v, got, want)
				}
				for _, r := range []int{paid, drained, freed} {
					if got := k.g.SeeReg(r); r != x.reg && got != 500+r {
						t.Errorf("%s(%d): the register %d is %d", x.name, n, r, got)
					}
				}
			}
		}
	}
}

// P20.2: in any phase of an epoch ticks follow one another, till there is nothing to do, at any K: of each K steps of the grave, and behind them K units.
func TestTicks(t *testing.T) {
	for _, c := range confs {
		for _, c.K = range []int{1, 2, 3, 50, 65536} {
			numbers, _ := plan.Of(c)
			for _, units := range moments(t, c, 5) {
				k := open(t, c)
				k.some(t, chance(uint32(units)), units)
				n := 0
				for ; !round.Quiet(k.g) || grave.Pending(k.g) > 0; n++ {
					k.tick(t)
					if n > numbers.Settle {
						t.Fatalf("%v: %d ticks", c, n)
					}
				}
				k.tick(t)
			}
		}
	}
}

// P20.2: a tick while the grave is empty, while there is no unit, and with both; who is buried by the units of a tick isn't drained by it.
func TestTick(t *testing.T) {
	for _, c := range []api.Conf{{N: 4, W: 16, R: 1, K: 3}, {N: 4, W: 16, R: 1, K: 40}} {
		for form := range 4 {
			k := open(t, c)
			if form&1 == 1 {
				k.dead(t, 8, 0)
			}
			k.setReg(suspicion, form>>1)
			for _, r := range []int{paid, drained, freed} {
				k.setReg(r, 0)
			}
			k.tick(t)
			// The dead one has 8 fields, and is ended; an epoch of no objects has 16 units.
			want := []int{min(c.K, 16) * (form >> 1), min(c.K, 9) * (form & 1), 0}
			if p, d, f := pace.Totals(k.g); p != want[0] || d != want[1] || f != want[2] {
				t.Errorf("%v, %d: Totals: %d, %d, %d, not %v", c, form, p, d, f, want)
			}
		}
	}
	k := open(t, api.Conf{N: 1, W: 16, R: 1, K: 65536})
	r := k.born(t, 1, 0, chance(1))
	link.Put(k.g, r, 0, r)
	link.Let(k.g, r)
	k.words = k.g.Words()
	k.tick(t)
	if n := grave.Pending(k.g); n != 1 || !round.Quiet(k.g) {
		t.Errorf("behind a tick that found it %d is pending", n)
	}
	k.tick(t)
	if n := pool.Len(k.g); n != 1 {
		t.Errorf("behind the next one %d is clean", n)
	}
}

// P20.2: Totals tells its own three registers, each by itself, and makes no access.
func TestTotals(t *testing.T) {
	for _, c := range confs {
		k := open(t, c)
		for r := range 24 {
			k.setReg(r, 1000+r)
		}
		for i := range 24 {
			k.setReg(i, most-i)
			k.check(t)
			k.check(t)
		}
	}
}

// P20.2: of a nil ground there is nothing.
func TestNilGround(t *testing.T) {
	for _, x := range calls() {
		for _, n := range []int{math.MinInt, -1, 0, 1, 100, math.MaxInt} {
			if got := x.do(nil, n); got != 0 {
				t.Errorf("%s(%d): %d", x.name, n, got)
			}
		}
	}
	pace.Tick(nil)
	if p, d, f := pace.Totals(nil); p != 0 || d != 0 || f != 0 {
		t.Errorf("Totals: %d, %d, %d", p, d, f)
	}
}

// P20.3: as many blocks as there may be, a long ring, a long grave, the greatest objects, and those whose fields all name another one that only they name: no call makes more accesses than it may.
func TestAccesses(t *testing.T) {
	for _, c := range []api.Conf{{N: 262144, W: 16, R: 4096, K: 1}, {N: 16384, W: 256, R: 1, K: 65536}} {
		k := open(t, c)
		l := k.wide()
		k.metered(t, 0, 0, 1, 2, 100, 1<<20)
		for _, r := range l {
			link.Hold(k.g, r)
		}
		k.metered(t, 0, 1, 5, 1000, math.MaxInt, 1)
		for range 2 {
			for _, r := range l {
				link.Let(k.g, r)
			}
			k.metered(t, 0, 1, 7, 1000, 50000)
		}
		for x := range 3 {
			k.metered(t, x, -1, 0, 1, 2, 3, 50, 300)
		}
		for x := range 3 {
			k.metered(t, x, 1000, math.MaxInt, 1, 0)
		}
		if n := pool.Len(k.g); n != c.N {
			t.Errorf("%v: %d blocks are clean", c, n)
		}
	}
}

// wide has objects born of as many blocks as there may be, each of which names several that nobody else names, till there is no room; and a suspicion. It answers those that are held.
func (k *kept) wide() []int {
	fields := (k.c.W - 8) * (k.c.W - 1)
	var l []int
	for pool.Len(k.g) > 3*k.c.W {
		r, _ := link.Born(k.g, fields, 0)
		l = append(l, r)
		for i := range fields {
			if pool.Len(k.g) <= k.c.W {
				break
			}
			x, _ := link.Born(k.g, 1, 1)
			link.Put(k.g, r, fields-1-i, x)
			link.Let(k.g, x)
			link.Put(k.g, x, 0, r)
		}
		if len(l) > 1 {
			link.Put(k.g, l[0], 0, r)
		}
	}
	for _, r := range l {
		link.Put(k.g, r, 0, l[0])
	}
	k.g.SetReg(suspicion, 1)
	return l
}

// metered does a call with some numbers, one behind the other, and tells where it makes more accesses than it may.
func (k *kept) metered(t *testing.T, which int, numbers ...int) {
	t.Helper()
	x := calls()[which]
	for _, n := range numbers {
		ahead := k.g.Meter()
		done := x.do(k.g, n)
		if a := k.g.Meter() - ahead; a > uint64(16+done*x.each(k.c)) {
			t.Errorf("%v: %s(%d): %d, and %d accesses", k.c, x.name, n, done, a)
		}
	}
}

// P20.2, P20.3, and the document's P7 and P8: all that is known are the ground's words, and how many accesses there are hangs on no word of an object: on another ground with the same ones, or with objects of other words, all goes on likewise.
func TestWordsAreAll(t *testing.T) {
	for _, x := range append(calls(), call{name: "Tick", do: func(g *ground.Ground, n int) int {
		pace.Tick(g)
		return n
	}}) {
		k := open(t, some)
		k.some(t, chance(5), 30)
		other := open(t, some)
		other.some(t, chance(6), 30)
		for range 200 {
			third, err := ground.New(some)
			if err != api.OK || !third.Load(k.g.Words()) {
				t.Fatal("Load", err)
			}
			a, b := k.g.Meter(), other.g.Meter()
			n, m, l := x.do(k.g, 3), x.do(other.g, 3), x.do(third, 3)
			if n != l || k.g.Meter()-a != third.Meter() || !slices.Equal(k.g.Words(), third.Words()) {
				t.Fatalf("%s: it goes on otherwise on another ground", x.name)
			}
			if n != m || k.g.Meter()-a != other.g.Meter()-b {
				t.Fatalf("%s: it goes on otherwise with other words in objects", x.name)
			}
		}
	}
}

// P20.2: where words were set otherwise nothing is promised but that each call ends.
func TestSetOtherwise(t *testing.T) {
	values := []uint32{0, 1, 2, 3, 4, 9, 1 << 20, 1 << 31, most - 1, most}
	for _, register := range values {
		for _, head := range values {
			for _, word := range values {
				k := open(t, small)
				l := k.g.Words()
				for r := range 24 {
					l[r] = register
				}
				for b := range k.c.N {
					at := 24 + k.c.R + b*k.c.W
					for w := range k.c.W {
						l[at+w] = word
					}
					l[at], l[at+1] = uint32(b)|head<<2, head
				}
				if !k.g.Load(l) {
					t.Fatal("Load")
				}
				for _, x := range calls() {
					x.do(k.g, 20)
				}
				pace.Tick(k.g)
				pace.Totals(k.g)
			}
		}
	}
}
