package link_test

import (
	"slices"
	"testing"

	"quitrent/api"
	"quitrent/grave"
	"quitrent/ground"
	"quitrent/link"
	"quitrent/obj"
	"quitrent/pool"
	"quitrent/ring"
	"quitrent/tint"
)

// chance answers a row of numbers that is the same at each run.
func chance(seed uint32) func(int) int {
	return func(bound int) int {
		seed = seed*1664525 + 1013904223
		return int(seed>>8) % bound
	}
}

// P15.5, and all others: all held against plain words, over calls of all kinds at any reference, with steps of the grave and of epochs between; behind each, counts are as often as objects are named, and who is named isn't buried.
func TestAnyCalls(t *testing.T) {
	for _, c := range []api.Conf{{N: 1, W: 16, R: 1, K: 1}, small, {N: 14, W: 17, R: 3, K: 1}} {
		for seed := range 12 {
			k, next := open(t, c), chance(uint32(c.N*100+seed))
			buried := 0
			for range 1500 {
				lay := len(k.grave)
				k.anyCall(t, next)
				buried += max(len(k.grave)-lay, 0)
				k.named(t)
			}
			if buried < 3*c.N {
				t.Errorf("%v: %d are buried: that tells too little", c, buried)
			}
		}
	}
}

// anyCall does some call, at some reference.
func (k *kept) anyCall(t *testing.T, next func(int) int) {
	t.Helper()
	r, x := next(k.c.N+3)-1, next(k.c.N+3)-1
	nptr, _, _ := obj.Lens(k.g, r)
	switch next(14) {
	case 0, 1:
		n := next(3 * k.c.W)
		if next(2) == 0 {
			n = next(k.c.W - 7)
		}
		ptrs := next(n + 1)
		k.bornOr(t, ptrs, n-ptrs)
	case 2, 3:
		k.hold(t, r)
	case 4, 5, 6, 7:
		// Who takes a hold away has it.
		if k.holds[r] > 0 {
			k.let(t, r)
		}
	case 8, 9:
		k.puts(t, r, next(nptr+2)-1, x)
	case 10:
		k.puts(t, r, next(nptr+1), 0)
	case 11:
		k.got(t, r, next(nptr+2)-1)
	case 12:
		k.anyEpoch(next)
	default:
		for range next(40) {
			grave.Step(k.g)
		}
		k.read()
	}
}

// anyEpoch does a step that an epoch may do.
func (k *kept) anyEpoch(next func(int) int) {
	switch next(4) {
	case 0:
		tint.Begin(k.g, next(4))
	case 1:
		if ring.Len(k.g) == 0 {
			tint.Turn(k.g)
		}
	case 2:
		ring.Take(k.g)
	default:
		tint.Move(k.g, next(k.c.N), next(5))
	}
	k.read()
}

// P15.5: objects in a row, in a round, and each named by all: they are buried as their names end, one by one, and those in the round never.
func TestForms(t *testing.T) {
	k := open(t, some)
	var row, round []int
	for i := range 5 {
		row, round = append(row, k.born(t, 1, 0)), append(round, k.born(t, 6, 0))
		if i > 0 {
			k.puts(t, row[i-1], 0, row[i])
			k.puts(t, round[i-1], 0, round[i])
		}
	}
	k.puts(t, round[4], 0, round[0])
	for _, r := range round {
		for i := range 5 {
			k.puts(t, r, i+1, round[i])
		}
	}
	for i := range 5 {
		k.let(t, row[4-i])
		k.let(t, round[i])
		k.named(t)
	}
	for range 5 * 2 {
		k.named(t)
		grave.Step(k.g)
		k.read()
	}
	for i := range 5 {
		if k.is(row[i]) || !k.alive(round[i]) {
			t.Errorf("of the row %d is left, or of the round %d isn't", row[i], round[i])
		}
	}
	if k.words[6] != 0 || len(k.pool) != some.N-5 {
		t.Errorf("%d are pending, %d clean", k.words[6], len(k.pool))
	}
}

// P15.4: as many blocks as there may be, a long ring and a long grave, the greatest objects: no call gets longer by it.
func TestAccesses(t *testing.T) {
	for _, c := range []api.Conf{{N: 262144, W: 16, R: 4096, K: 1}, {N: 16384, W: 256, R: 1, K: 65536}} {
		k := open(t, c)
		fields := (c.W - 8) * (c.W - 1)
		var a int
		k.metered(t, "Born", 128+2*c.W*(c.W-7), func() { a, _ = link.Born(k.g, fields, 0) })
		var l []int
		for pool.Len(k.g) > 0 {
			k.metered(t, "Born", 128+2*c.W, func() {
				r, _ := link.Born(k.g, 1, 1)
				l = append(l, r)
			})
		}
		k.metered(t, "Born", 128+2*c.W, func() { link.Born(k.g, 0, 0) })
		tint.Turn(k.g)
		tint.Begin(k.g, api.Flooding)
		// Every second one stands in the ring, so that the others come behind many, and those are cut out of the midst.
		for i, r := range l {
			if i%2 == 0 {
				k.metered(t, "Hold", 64, func() { link.Hold(k.g, r) })
				k.metered(t, "Let", 96, func() { link.Let(k.g, r) })
			}
		}
		for i := range fields {
			x := l[(2*i+1)%len(l)]
			k.metered(t, "Put", 192, func() { link.Put(k.g, a, i, x) })
			k.metered(t, "Let", 96, func() { link.Let(k.g, x) })
		}
		for i := range fields {
			x, y := l[(2*i+2)%len(l)], 0
			k.metered(t, "Get", 64, func() { y, _ = link.Get(k.g, a, i) })
			// Who is named by the field alone is scanned, so that its burial does all that one may.
			k.g.SetReg(14, y)
			tint.Turn(k.g)
			k.metered(t, "Put", 192, func() { link.Put(k.g, a, i, x) })
			k.metered(t, "Let", 96, func() { link.Let(k.g, x) })
		}
		k.metered(t, "Suspect", 64, func() { link.Suspect(k.g) })
	}
}

// P15.4, and the document's P8: how many accesses there are hangs on no word of an object, and on no place of it.
func TestAccessesOfAnyObject(t *testing.T) {
	var want []uint64
	for seed := range 6 {
		k := open(t, some)
		for range seed {
			k.born(t, 0, 3)
		}
		var r, x int
		var got []uint64
		for _, call := range []func(){
			func() { r, _ = link.Born(k.g, 3, 40) },
			func() { x, _ = link.Born(k.g, 1, 1) },
			func() { obj.SetData(k.g, r, seed, uint32(seed)*2654435761) },
			func() { link.Put(k.g, r, 1, x) },
			func() { link.Hold(k.g, r) },
			func() { link.Let(k.g, r) },
			func() { link.Let(k.g, x) },
			func() { link.Get(k.g, r, 1) },
			func() { link.Put(k.g, r, 1, 0) },
		} {
			ahead := k.g.Meter()
			call()
			got = append(got, k.g.Meter()-ahead)
		}
		if want == nil {
			want = got
		}
		if !slices.Equal(got, want) {
			t.Errorf("accesses %v, and %v", got, want)
		}
	}
}

// P15.5, and the document's P7: all that is known are the ground's words: on another ground with the same ones all goes on, access by access.
func TestWordsAreAll(t *testing.T) {
	k, next := open(t, small), chance(7)
	for range 300 {
		k.anyCall(t, next)
		other, err := ground.New(small)
		if err != api.OK || !other.Load(k.g.Words()) {
			t.Fatal("Load", err)
		}
		r, x := next(small.N)+1, next(small.N)+1
		for i, call := range []func(g *ground.Ground){
			func(g *ground.Ground) { link.Born(g, 1, 12) },
			func(g *ground.Ground) { link.Put(g, r, 0, x) },
			func(g *ground.Ground) { link.Hold(g, r) },
			func(g *ground.Ground) { link.Let(g, r) },
			func(g *ground.Ground) { link.Get(g, x, 0) },
			func(g *ground.Ground) { link.Put(g, r, 0, 0) },
		} {
			start := k.g.Words()
			ahead, otherAhead := k.g.Meter(), other.Meter()
			call(k.g)
			call(other)
			if k.g.Meter()-ahead != other.Meter()-otherAhead || !slices.Equal(k.g.Words(), other.Words()) {
				t.Fatalf("the call %d goes on otherwise on another ground", i)
			}
			k.g.Load(start)
			other.Load(start)
		}
	}
}

// P15.1, P15.2, P15.3, P15.4: where words were set otherwise nothing is promised but that each call ends.
func TestSetOtherwise(t *testing.T) {
	values := []uint32{0, 1, 2, 3, 4, 9, 1 << 20, 1 << 31, most - 1, most}
	for _, register := range values {
		for _, count := range values {
			for _, word := range values {
				k := open(t, small)
				l := k.g.Words()
				for r := range 24 {
					l[r] = register
				}
				for b := range k.c.N {
					for w := range k.c.W {
						l[k.at(b, w)] = word
					}
					l[k.at(b, 0)] = uint32(b) | word<<2
					l[k.at(b, 3)] = count
				}
				if !k.g.Load(l) {
					t.Fatal("Load")
				}
				for r := range k.c.N + 2 {
					link.Hold(k.g, r)
					link.Put(k.g, r, 0, k.c.N-r)
					link.Get(k.g, r, 1)
					link.Let(k.g, r)
					link.Born(k.g, r, 7*r)
					link.Put(k.g, r, 0, 0)
					link.Suspect(k.g)
				}
			}
		}
	}
}
