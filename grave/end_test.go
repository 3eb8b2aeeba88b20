package grave_test

import (
	"slices"
	"testing"

	"quitrent/api"
	"quitrent/count"
	"quitrent/grave"
	"quitrent/ground"
	"quitrent/obj"
	"quitrent/pool"
	"quitrent/ring"
	"quitrent/tint"
)

// chance answers a row of numbers that is the same at each run.
func chance(seed uint32) func(int) int {
	return func(bound int) int {
		seed = seed*1664525 + 1013904223
		return int(seed>>8) % bound
	}
}

// named answers how often the fields of all objects, and so many holds of each, name an object.
func (k *kept) named(holds map[int]int, r int) int {
	n := holds[r]
	for x := 1; x <= k.c.N; x++ {
		o, ok := obj.See(k.g, x)
		if !ok {
			continue
		}
		for _, y := range o.Ptrs {
			if y == r {
				n++
			}
		}
	}
	return n
}

// P14.4: objects that name one another in any way, some of them held: behind the burials and all steps nothing is pending, and who is left is named as often as its count says.
func TestStepsEnd(t *testing.T) {
	byOthers := 0
	for _, c := range []api.Conf{{N: 1, W: 16, R: 1, K: 1}, small, some, {N: 30, W: 33, R: 1, K: 1}} {
		for seed := range 100 {
			k, next := open(t, c), chance(uint32(seed))
			refs, holds := k.anyObjects(t, next)
			buried := 0
			for _, r := range refs {
				if k.buried(t, r) {
					buried++
				}
			}
			steps := k.emptied(t)
			if steps > c.N*(c.W+1) || buried > 0 && steps == 0 {
				t.Errorf("%v: %d steps behind %d burials", c, steps, buried)
			}
			if grave.Pending(k.g) != 0 || len(grave.List(k.g)) != 0 {
				t.Errorf("%v: %d are pending", c, grave.Pending(k.g))
			}
			blocks := 0
			for _, r := range refs {
				blocks += obj.Blocks(k.g, r)
				if obj.Is(k.g, r) && (count.Of(k.g, r) == 0 || count.Of(k.g, r) != k.named(holds, r)) {
					t.Errorf("%v: the count of %d is %d, but it is named %d times", c, r, count.Of(k.g, r), k.named(holds, r))
				}
				if !obj.Is(k.g, r) && holds[r] > 0 {
					t.Errorf("%v: %d was held", c, r)
				}
				if !obj.Is(k.g, r) {
					byOthers++
				}
			}
			byOthers -= buried
			if blocks+pool.Len(k.g) != c.N {
				t.Errorf("%v: %d blocks are objects', %d clean", c, blocks, pool.Len(k.g))
			}
		}
	}
	if byOthers < 100 {
		t.Errorf("%d are buried by others' ends: that tells too little", byOthers)
	}
}

// anyObjects makes objects of any sizes that name any of them, with counts that are right, and answers their references, and how often each is held.
func (k *kept) anyObjects(t *testing.T, next func(int) int) ([]int, map[int]int) {
	t.Helper()
	var refs []int
	for len(k.pool) > 4 || len(refs) == 0 {
		n := next(3 * (k.c.W - 8))
		if len(k.pool) < 5 {
			n = next(k.c.W - 7)
		}
		nptr := next(n + 1)
		refs = append(refs, k.make(t, nptr, n-nptr))
	}
	holds := map[int]int{}
	for _, r := range refs {
		if next(4) == 0 {
			holds[r] = 1 + next(2)
			for range holds[r] {
				count.Up(k.g, r)
			}
		}
		nptr, _, _ := obj.Lens(k.g, r)
		// About as many names as objects: so there are some that nobody names, and some that only these do.
		for i := range nptr {
			if next(nptr+1) < 2 {
				k.name(t, r, i, refs[next(len(refs))])
			}
		}
	}
	k.read()
	return refs, holds
}

// P14.4: a long row of objects, each of which names the next one: the first burial leads to all others, and no call is long by it.
func TestLongRow(t *testing.T) {
	c := api.Conf{N: 20000, W: 16, R: 1, K: 1}
	k := open(t, c)
	for r := 1; r <= c.N; r++ {
		obj.Make(k.g, 1, 1)
		if r > 1 {
			obj.SetPtr(k.g, r-1, 0, r)
			count.Up(k.g, r)
		}
	}
	k.metered(t, "Bury", 64, func() { grave.Bury(k.g, 1) })
	for r := 1; r <= c.N; r++ {
		if l := grave.See(k.g); l != 1 {
			t.Fatalf("%d are pending", l)
		}
		k.metered(t, "Release", 2*96, func() { grave.Release(k.g) })
	}
	if pool.Len(k.g) != c.N || grave.Step(k.g) {
		t.Errorf("%d are clean", pool.Len(k.g))
	}
}

// P14.4: objects that name one another in a round aren't buried by it; and who was buried of them ahead is so once.
func TestRound(t *testing.T) {
	k := open(t, small)
	a, b, c := k.make(t, 1, 0), k.make(t, 1, 0), k.make(t, 2, 0)
	k.name(t, a, 0, b)
	k.name(t, b, 0, a)
	k.name(t, c, 0, a)
	k.name(t, c, 1, c)
	count.Down(k.g, c)
	k.read()
	k.buried(t, c)
	k.emptied(t)
	if count.Of(k.g, a) != 1 || count.Of(k.g, b) != 1 || tint.Dead(k.g, a) || tint.Dead(k.g, b) || obj.Is(k.g, c) {
		t.Errorf("counts %d, %d", count.Of(k.g, a), count.Of(k.g, b))
	}
	count.Down(k.g, a)
	k.read()
	k.buried(t, a)
	k.emptied(t)
	if pool.Len(k.g) != small.N {
		t.Errorf("%d are clean", pool.Len(k.g))
	}
}

// P14.1, P14.2, P14.3: all held against plain words, over calls of all kinds and at any reference.
func TestAnyCalls(t *testing.T) {
	for _, c := range []api.Conf{{N: 1, W: 16, R: 1, K: 1}, small, {N: 14, W: 17, R: 3, K: 1}} {
		k, next := open(t, c), chance(uint32(c.N))
		for range 8000 {
			k.anyCall(t, next)
		}
	}
}

// anyCall does some call, at some reference.
func (k *kept) anyCall(t *testing.T, next func(int) int) {
	t.Helper()
	r, x := next(k.c.N+3)-1, next(k.c.N+1)
	switch next(12) {
	case 0:
		n := next(3 * k.c.W)
		if (n+k.c.W-2)/(k.c.W-1) < len(k.pool) {
			nptr := next(n + 1)
			k.make(t, nptr, n-nptr)
		}
	case 1, 2, 3:
		nptr, _, _ := obj.Lens(k.g, r)
		if i := next(nptr + 1); i < nptr && !tint.Dead(k.g, r) && !tint.Dead(k.g, x) {
			k.name(t, r, i, x)
		}
	case 4:
		count.Down(k.g, r)
		k.read()
	case 5:
		k.anyEpoch(next, r)
	case 6:
		if k.is(r) && !tint.Dead(k.g, r) {
			ring.Add(k.g, r-1)
			k.read()
		}
	case 7, 8:
		k.buried(t, r)
	case 9:
		k.released(t)
	default:
		k.stepped(t)
	}
}

// anyEpoch puts the epoch's registers, and the marks and the shadow of an object, to some that may be.
func (k *kept) anyEpoch(next func(int) int, r int) {
	for i, v := range []int{next(2), next(4), next(k.c.N + 1), next(5), next(k.c.N + 1)} {
		k.setReg(10+i, v)
	}
	if k.is(r) {
		k.setMarks(r, next(8))
		k.set(r, 4, next(4))
	}
}

// P14.1, P14.2: as many blocks as there may be, a long ring and a long grave, the greatest objects: no call gets longer by it.
func TestAccesses(t *testing.T) {
	for _, c := range []api.Conf{{N: 262144, W: 16, R: 4096, K: 1}, {N: 16384, W: 256, R: 1, K: 65536}} {
		k := open(t, c)
		fields := (c.W - 8) * (c.W - 1)
		a, _ := obj.Make(k.g, fields, 0)
		b, _ := obj.Make(k.g, fields, 0)
		var small []int
		for pool.Len(k.g) > 0 {
			r, _ := obj.Make(k.g, 1, 1)
			small = append(small, r)
		}
		tint.Turn(k.g)
		tint.Begin(k.g, api.Flooding)
		// Both name others, so that what either names is buried by it.
		half := len(small) / 2
		for i := range fields {
			obj.SetPtr(k.g, a, i, small[i%half])
			obj.SetPtr(k.g, b, i, small[half+i%half])
		}
		for _, x := range append([]int{a, b}, small...) {
			tint.Deepen(k.g, x)
			k.g.SetWord(x-1, 3, 1)
			ring.Add(k.g, x-1)
			tint.Done(k.g, x)
		}
		k.meteredAll(t, a, b)
	}
}

// meteredAll buries two objects, and does all steps, and tells where a call makes too many accesses.
func (k *kept) meteredAll(t *testing.T, a, b int) {
	t.Helper()
	for _, r := range []int{a, b} {
		k.g.SetWord(r-1, 3, 0)
		k.setReg(14, r)
		k.metered(t, "Bury", 64, func() { grave.Bury(k.g, r) })
	}
	blocks := obj.Blocks(k.g, a)
	for obj.Is(k.g, a) {
		// Each one that is named is scanned, so that its burial does all that one may.
		left := int(k.g.SeeWord(a-1, 6))
		x, _ := obj.Ptr(k.g, a, max(left-1, 0))
		k.g.SetReg(14, x)
		k.metered(t, "Step", 96, func() { grave.Step(k.g) })
	}
	for range blocks {
		k.metered(t, "Release", 96*k.c.W, func() { grave.Release(k.g) })
	}
	if obj.Is(k.g, b) {
		t.Errorf("%v: %d releases don't end an object of as many blocks", k.c, blocks)
	}
}

// P14.1, P14.2, and the document's P8: how many accesses there are hangs on no word of an object, and on no place of it.
func TestAccessesOfAnyObject(t *testing.T) {
	var want []uint64
	for seed := range 6 {
		k := open(t, some)
		for range seed {
			k.make(t, 0, 3)
		}
		r := k.make(t, 3, 40)
		for i := range 40 {
			obj.SetData(k.g, r, i, uint32(i*seed)*2654435761)
		}
		k.name(t, r, 1, k.make(t, 1, 1))
		var got []uint64
		for _, call := range []func() bool{func() bool { return grave.Bury(k.g, r) }, func() bool { return grave.Step(k.g) }, func() bool { return grave.Release(k.g) }, func() bool { return grave.Step(k.g) }, func() bool { return grave.Release(k.g) }} {
			ahead := k.g.Meter()
			call()
			got = append(got, k.g.Meter()-ahead)
		}
		if want == nil {
			want = got
		}
		if !slices.Equal(got, want) {
			t.Errorf("accesses %v, and %v", got, want)
		}
	}
}

// P14.1, P14.2, P14.3: all that is known are the ground's words: on another ground with the same ones all goes on, access by access.
func TestWordsAreAll(t *testing.T) {
	for steps := range 60 {
		k := open(t, small)
		a, b, c := k.make(t, 20, 5), k.make(t, 3, 2), k.make(t, 1, 0)
		k.name(t, a, 18, b)
		k.name(t, b, 1, c)
		k.buried(t, a)
		for range steps {
			k.stepped(t)
		}
		other, err := ground.New(small)
		if err != api.OK || !other.Load(k.g.Words()) {
			t.Fatal("Load", err)
		}
		for more := true; more; {
			ahead, otherAhead := k.g.Meter(), other.Meter()
			more = grave.Step(k.g)
			if grave.Step(other) != more || k.g.Meter()-ahead != other.Meter()-otherAhead || !slices.Equal(k.g.Words(), other.Words()) {
				t.Fatalf("behind %d steps: another ground goes on otherwise", steps)
			}
		}
	}
}

// P14.1, P14.2: where words were set otherwise nothing is promised but that each call ends.
func TestSetOtherwise(t *testing.T) {
	values := []uint32{0, 1, 2, 3, 4, 9, 1 << 20, 1 << 31, most - 1, most}
	for _, register := range values {
		for _, left := range values {
			for _, word := range values {
				k := open(t, small)
				l := k.g.Words()
				for r := range 24 {
					l[r] = register
				}
				for b := range k.c.N {
					for w := range k.c.W {
						l[k.at(b, w)] = word
					}
					l[k.at(b, 0)] = uint32(b) | word<<2
					l[k.at(b, 6)], l[k.at(b, 7)] = left, word
				}
				if !k.g.Load(l) {
					t.Fatal("Load")
				}
				for r := range k.c.N + 2 {
					grave.Bury(k.g, r)
					grave.Release(k.g)
					grave.Step(k.g)
				}
				grave.Pending(k.g)
				grave.List(k.g)
			}
		}
	}
}
