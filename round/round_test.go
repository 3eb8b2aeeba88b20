package round_test

import (
	"math"
	"slices"
	"testing"

	"quitrent/api"
	"quitrent/grave"
	"quitrent/ground"
	"quitrent/link"
	"quitrent/obj"
	"quitrent/pool"
	"quitrent/ring"
	"quitrent/round"
	"quitrent/tint"
)

// setData makes an object's words those that a function tells.
func setData(g *ground.Ground, r, ndata int, by func(int) uint32) {
	for i := range ndata {
		obj.SetData(g, r, i, by(i))
	}
}

// P19.1, P19.2: the chapter's example: no unit of a new ground; one object that names itself is let: 9 units, in their phases.
func TestExample(t *testing.T) {
	g, err := ground.New(api.Conf{N: 1, W: 16, R: 1, K: 1})
	if err != api.OK || !pool.Open(g) {
		t.Fatal(err)
	}
	if round.Step(g) || round.Run(g, 5) != 0 || round.Units(g) != 0 || round.Epochs(g) != 0 || !round.Quiet(g) {
		t.Error("a new ground has a unit, or isn't quiet")
	}
	a, _ := link.Born(g, 1, 0)
	link.Put(g, a, 0, a)
	link.Let(g, a)
	if round.Quiet(g) {
		t.Error("quiet, though a name was taken away")
	}
	for i, p := range []int{1, 1, 1, 2, 2, 3, 3, 3, 0} {
		if !round.Step(g) || tint.Phase(g) != p || round.Units(g) != i+1 || round.Epochs(g) != i/8 {
			t.Fatalf("behind the unit %d the phase is %d, of %d units and %d epochs", i+1, tint.Phase(g), round.Units(g), round.Epochs(g))
		}
	}
	if round.Step(g) || !round.Quiet(g) || round.Units(g) != 9 {
		t.Errorf("a tenth unit, or %d", round.Units(g))
	}
	for grave.Step(g) {
	}
	if obj.Is(g, a) || pool.Len(g) != 1 {
		t.Error("it is left")
	}
}

// P19.1, P19.2: while the phase is Idle and the suspicion 0 there is no unit, and nothing is done: of a new ground, with objects that are held, and behind an epoch.
func TestNoUnit(t *testing.T) {
	for _, c := range confs {
		k := open(t, c)
		for n := range 3 {
			switch n {
			case 1:
				k.born(t, 0, 1)
			case 2:
				k.setReg(suspicion, 1)
				k.whole(t)
			}
			for range 3 {
				if k.step(t) || round.Run(k.g, 7) != 0 {
					t.Errorf("%v, %d: a unit", c, n)
				}
			}
			k.check(t)
		}
	}
}

// P19.1: with a suspicion of 1 an epoch begins, at either parity: the parity turns, the suspicion and the cursor are 0, the phase is Counting, and nothing else is done; a suspicion of 0 lets none begin.
func TestBegin(t *testing.T) {
	for _, c := range confs {
		for p := range 2 {
			k := open(t, c)
			k.some(t, chance(3))
			k.setReg(parity, p)
			for r := cursor; r <= scannedField; r++ {
				k.setReg(r, 7)
			}
			k.setReg(suspicion, 0)
			if k.step(t) {
				t.Errorf("%v: a unit without a suspicion", c)
			}
			k.setReg(suspicion, 1)
			k.must(t)
			want := []int{1 - p, api.Counting, 0, 0, 0, 0, 0, 1, 500 + epochs}
			for i, v := range want {
				if got := k.g.SeeReg(parity + i); got != v {
					t.Errorf("%v: the register %d is %d, not %d", c, parity+i, got, v)
				}
			}
		}
	}
}

// P19.1: in each phase a unit is a step of that phase, and where there is none, the next phase begins, by a unit of its own that does nothing else; whatever the suspicion is, it stays. One epoch has all phases in their order.
func TestPhases(t *testing.T) {
	for _, c := range confs {
		for suspicious := range 2 {
			k := open(t, c)
			k.some(t, chance(5))
			k.setReg(suspicion, 1)
			k.must(t)
			k.setReg(suspicion, suspicious)
			for i, p := range phases[1:] {
				next := phases[(i+2)%4]
				for tint.Phase(k.g) == p {
					at, _ := tint.At(k.g)
					atEnd := at >= c.N && k.g.Reg(scanned) == 0 && ring.Len(k.g) == 0
					was := k.g.Words()
					k.must(t)
					if (tint.Phase(k.g) == next) != atEnd {
						t.Fatalf("%v: from the phase %d to %d, and the cursor was %d", c, p, tint.Phase(k.g), at)
					}
					if atEnd && !slices.Equal(was[24:], k.words[24:]) {
						t.Errorf("%v: as the phase %d ends something else is done", c, p)
					}
				}
				if tint.Phase(k.g) != next || k.g.Reg(suspicion) != suspicious {
					t.Errorf("%v: behind the phase %d comes %d", c, p, tint.Phase(k.g))
				}
			}
		}
	}
}

// P19.1: the cursor far behind the last block ends a phase as one right behind it does; the flood goes on, while one is scanned or stands in the ring.
func TestEndOfPhase(t *testing.T) {
	for i, p := range phases[1:] {
		next := phases[(i+2)%4]
		for form := range 4 {
			for _, at := range []int{small.N, small.N + 1, 1 << 20, 1 << 31, most} {
				k := open(t, small)
				r, x := k.born(t, 0, 0), k.born(t, 0, 0)
				k.setReg(suspicion, 1)
				k.goTo(t, p)
				if form&1 == 1 {
					tint.Touch(k.g, r)
					ring.Add(k.g, r-1)
				}
				if form&2 == 2 {
					k.g.SetReg(scanned, x)
				}
				tint.Move(k.g, at, 0)
				k.read()
				k.must(t)
				want := next
				if p == api.Flooding && form > 0 {
					want = p
				}
				if tint.Phase(k.g) != want {
					t.Errorf("%d: from the phase %d to %d, at %d", form, p, tint.Phase(k.g), at)
				}
			}
		}
	}
}

// P19.1: an epoch of clean blocks alone, of one that is held and names itself in some fields, and of one that nobody holds: so many units, phase by phase.
func TestUnitsOfPhases(t *testing.T) {
	for _, c := range confs {
		for fields := range 5 {
			for held := range 2 {
				k := open(t, c)
				r := k.born(t, fields, 0)
				for i := range fields {
					k.name(t, r, i, r)
				}
				want := [4]int{1, c.N + 1 + fields, c.N + 1, c.N + 1}
				if held == 1 {
					// It is taken out of the ring, each field is scanned, and it is let be.
					want[api.Flooding] += 2 + fields
				} else {
					// Each field is emptied; where it has none, nobody names it, and it is dead ahead.
					want[api.Reaping] += fields
					k.let(t, r)
				}
				k.setReg(suspicion, 1)
				if got := k.unitsOfPhases(t); got != want {
					t.Errorf("%v, of %d fields, %d holds: %v units, not %v", c, fields, held, got, want)
				}
			}
		}
		k := open(t, c)
		k.setReg(suspicion, 1)
		if got, want := k.unitsOfPhases(t), [4]int{1, c.N + 1, c.N + 1, c.N + 1}; got != want {
			t.Errorf("%v: %v units, not %v", c, got, want)
		}
	}
}

// unitsOfPhases does units till there is none, and answers how many there were in each phase.
func (k *kept) unitsOfPhases(t *testing.T) [4]int {
	t.Helper()
	var n [4]int
	p := tint.Phase(k.g)
	for k.step(t) {
		n[p]++
		p = tint.Phase(k.g)
	}
	return n
}

// P19.1: Run does as many units as it is told, also in pieces, and none where n is below 0, or 0; where there are fewer, it answers how many there were.
func TestRun(t *testing.T) {
	for _, c := range confs {
		k := open(t, c)
		k.some(t, chance(8))
		k.setReg(suspicion, 1)
		start := k.g.Words()
		all, accesses := 0, uint64(0)
		for ahead := k.g.Meter(); round.Step(k.g); accesses = k.g.Meter() - ahead {
			all++
		}
		end := k.g.Words()
		for _, n := range []int{0, -1, -2, -1 << 31, math.MinInt} {
			k.load(start)
			ahead := k.g.Meter()
			if got := round.Run(k.g, n); got != 0 || k.g.Meter() != ahead {
				t.Errorf("%v: Run(%d): %d", c, n, got)
			}
			k.check(t)
		}
		for _, n := range []int{all, all + 1, all + 9, 2 * all, 1 << 31, 1 << 32, math.MaxInt} {
			k.load(start)
			if got := round.Run(k.g, n); got != all || !slices.Equal(k.g.Words(), end) {
				t.Errorf("%v: Run(%d): %d, not %d", c, n, got, all)
			}
		}
		for _, n := range []int{1, 2, 3, 7, all/2 + 1, all - 1} {
			k.load(start)
			ahead := k.g.Meter()
			left := all
			for left >= n {
				if got := round.Run(k.g, n); got != n || k.g.SeeReg(units) != all-left+n {
					t.Fatalf("%v: Run(%d): %d", c, n, got)
				}
				left -= n
			}
			if got := round.Run(k.g, left); got != left || !slices.Equal(k.g.Words(), end) || k.g.Meter()-ahead != accesses {
				t.Errorf("%v: Run(%d), and %d at the end: %d, with %d accesses, not %d", c, n, left, got, k.g.Meter()-ahead, accesses)
			}
		}
	}
}

// P19.1: Run goes on into the next epoch, if the suspicion is 1 as one ends, and stops behind that.
func TestRunOverEpochs(t *testing.T) {
	k := open(t, some)
	k.some(t, chance(9))
	k.setReg(suspicion, 1)
	k.goTo(t, api.Reaping)
	k.setReg(suspicion, 1)
	k.setReg(epochs, 0)
	left := 0
	start := k.g.Words()
	for k.words[phase] == api.Reaping {
		k.must(t)
		left++
	}
	second := k.whole(t)
	if second == 0 || round.Epochs(k.g) != 2 || round.Units(k.g) != second {
		t.Fatalf("a second epoch of %d units, %d of them told", second, round.Units(k.g))
	}
	end := k.g.Words()
	k.load(start)
	if n := round.Run(k.g, math.MaxInt); n != left+second || !slices.Equal(k.g.Words(), end) {
		t.Errorf("%d units, not %d and %d", n, left, second)
	}
	k.load(start)
	if n := round.Run(k.g, left+1); n != left+1 || round.Units(k.g) != 1 || round.Epochs(k.g) != 1 {
		t.Errorf("%d units, %d of them in the second epoch", n, round.Units(k.g))
	}
}

// P19.1, P19.2: an epoch ends while the suspicion is 1: it isn't quiet, and the next unit begins another one, which is counted from 1 on again; behind that all is quiet.
func TestEndsSuspected(t *testing.T) {
	for _, p := range phases[1:] {
		k := open(t, small)
		r, x := k.born(t, 1, 0), k.born(t, 0, 0)
		k.setReg(epochs, 0)
		k.setReg(suspicion, 1)
		k.goTo(t, p)
		k.name(t, r, 0, x)
		k.let(t, x)
		k.goTo(t, api.Idle)
		first := round.Units(k.g)
		if round.Epochs(k.g) != 1 || round.Quiet(k.g) || !link.Suspect(k.g) || first < 3*small.N+4 {
			t.Errorf("let in the phase %d: %d epochs, of %d units", p, round.Epochs(k.g), first)
		}
		k.must(t)
		if round.Units(k.g) != 1 || round.Epochs(k.g) != 1 || link.Suspect(k.g) || tint.Phase(k.g) != api.Counting {
			t.Errorf("let in the phase %d: the next epoch has %d units", p, round.Units(k.g))
		}
		k.goTo(t, api.Idle)
		if round.Epochs(k.g) != 2 || !round.Quiet(k.g) || k.step(t) {
			t.Errorf("let in the phase %d: %d epochs", p, round.Epochs(k.g))
		}
	}
}

// P19.1, P19.2: the register 17 is 1 behind the first unit of an epoch, whatever it was ahead, and one more behind each other one; it stays till the next epoch begins.
func TestUnits(t *testing.T) {
	for _, v := range []int{0, 1, 2, 500, 1 << 31, most - 1, most} {
		k := open(t, small)
		k.born(t, 2, 1)
		k.setReg(units, v)
		if round.Units(k.g) != v || k.step(t) || round.Units(k.g) != v {
			t.Errorf("%d: Units: %d", v, round.Units(k.g))
		}
		for range 2 {
			k.setReg(suspicion, 1)
			n := 0
			for k.step(t) {
				n++
				if round.Units(k.g) != n {
					t.Fatalf("%d: behind %d units: %d", v, n, round.Units(k.g))
				}
			}
			if round.Units(k.g) != n {
				t.Errorf("%d: behind the epoch: %d, not %d", v, round.Units(k.g), n)
			}
		}
	}
}

// P19.1, P19.2: the register 18 is one more behind the last unit of an epoch, and behind no other one; it goes round at 2^32.
func TestEpochs(t *testing.T) {
	for _, v := range []int{0, 1, 2, 1<<31 - 1, 1 << 31, most - 2, most - 1, most} {
		k := open(t, small)
		k.born(t, 1, 0)
		k.setReg(epochs, v)
		for range 3 {
			k.setReg(suspicion, 1)
			for n := 0; ; n++ {
				if round.Epochs(k.g) != v {
					t.Fatalf("behind %d units: %d, not %d", n, round.Epochs(k.g), v)
				}
				k.must(t)
				if tint.Phase(k.g) == api.Idle {
					break
				}
			}
			if v++; v > most {
				v = 0
			}
			if round.Epochs(k.g) != v {
				t.Fatalf("behind the epoch: %d, not %d", round.Epochs(k.g), v)
			}
		}
	}
}

// P19.2: Units, Epochs and Quiet tell of their own registers alone, and change nothing.
func TestTold(t *testing.T) {
	for _, c := range confs {
		k := open(t, c)
		for r := range 24 {
			k.setReg(r, 1000+r)
		}
		for i := range 24 {
			k.setReg(i, most-i)
			k.check(t)
			k.check(t)
		}
	}
}

// P19.2: it is quiet while the phase is Idle and the suspicion 0, and neither in another phase nor with a suspicion.
func TestQuiet(t *testing.T) {
	for _, c := range confs {
		k := open(t, c)
		k.born(t, 1, 0)
		for _, p := range phases {
			if p != api.Idle {
				k.setReg(suspicion, 1)
				k.goTo(t, p)
			}
			for suspicious := range 2 {
				k.setReg(suspicion, suspicious)
				if got := round.Quiet(k.g); got != (p == api.Idle && suspicious == 0) {
					t.Errorf("%v: in the phase %d, with a suspicion of %d: %v", c, p, suspicious, got)
				}
				k.check(t)
			}
		}
	}
}

// P19.1, P19.2: a nil ground has no units, and isn't quiet.
func TestNilGround(t *testing.T) {
	if round.Step(nil) || round.Quiet(nil) || round.Units(nil) != 0 || round.Epochs(nil) != 0 {
		t.Error("of a nil ground there is something")
	}
	for _, n := range []int{-1, 0, 1, 100, math.MaxInt} {
		if got := round.Run(nil, n); got != 0 {
			t.Errorf("Run(%d): %d", n, got)
		}
	}
}

// P19.1, P19.3: as many blocks as there may be, a long ring and a long grave, the greatest objects: no unit gets longer by it, and there are no more of them than Epoch says.
func TestAccesses(t *testing.T) {
	for _, c := range []api.Conf{{N: 262144, W: 16, R: 4096, K: 1}, {N: 16384, W: 256, R: 1, K: 65536}} {
		k := open(t, c)
		fields := (c.W - 8) * (c.W - 1)
		a, _ := link.Born(k.g, fields, 0)
		l := []int{a}
		for pool.Len(k.g) > 0 {
			r, _ := link.Born(k.g, 2, 1)
			l = append(l, r)
		}
		for i := range fields {
			link.Put(k.g, a, i, l[1+i*5%(len(l)-1)])
		}
		for i, r := range l[1:] {
			link.Put(k.g, r, 0, l[1+(i+7)%(len(l)-1)])
			link.Put(k.g, r, 1, a)
		}
		k.g.SetReg(suspicion, 1)
		k.meteredEpoch(t, func() {
			// All are touched as the epoch begins: so the ring is as long as it can be.
			for _, r := range l {
				link.Hold(k.g, r)
			}
			if ring.Len(k.g) != len(l) {
				t.Errorf("%v: %d stand in the ring, not %d", c, ring.Len(k.g), len(l))
			}
		})
		for _, r := range l {
			link.Let(k.g, r)
			link.Let(k.g, r)
		}
		k.meteredEpoch(t, func() {})
		if n := len(grave.List(k.g)); n < len(l)/2 {
			t.Errorf("%v: %d are buried", c, n)
		}
	}
}

// meteredEpoch does an epoch, with something behind its first unit, and tells where a unit makes more accesses than it may, or there are more units than Epoch says.
func (k *kept) meteredEpoch(t *testing.T, behindFirst func()) {
	t.Helper()
	n := 0
	for ok := true; ok; {
		k.metered(t, func() { ok = round.Step(k.g) })
		if n++; n == 1 {
			behindFirst()
		}
	}
	if k.g.SeeReg(units) != n-1 || n-1 > 3*k.c.N*(k.c.W+1)+4 || n-1 < 3*k.c.N+4 {
		t.Errorf("%v: %d units, of which %d are told", k.c, n-1, k.g.SeeReg(units))
	}
}

// P19.1, and the document's P8: how many accesses there are hangs on no word of an object.
func TestAccessesOfAnyWords(t *testing.T) {
	var want []uint64
	for seed := range 5 {
		k := open(t, some)
		k.some(t, chance(3))
		for r := 1; r <= some.N; r++ {
			_, ndata, _ := obj.Lens(k.g, r)
			setData(k.g, r, ndata, func(i int) uint32 { return uint32(seed*i) * 2654435761 })
		}
		var got []uint64
		for ok := true; ok; {
			ahead := k.g.Meter()
			ok = round.Step(k.g)
			got = append(got, k.g.Meter()-ahead)
		}
		if want == nil {
			want = got
		}
		if !slices.Equal(got, want) {
			t.Errorf("accesses %v, and %v", got, want)
		}
	}
}

// P19.1, and the document's P7: all that is known are the ground's words: on another ground with the same ones an epoch goes on, access by access.
func TestWordsAreAll(t *testing.T) {
	k := open(t, some)
	k.some(t, chance(5))
	for k.step(t) {
		other, err := ground.New(some)
		if err != api.OK || !other.Load(k.g.Words()) {
			t.Fatal("Load", err)
		}
		start := k.g.Words()
		ahead, otherAhead := k.g.Meter(), other.Meter()
		n, m := round.Run(k.g, 3), round.Run(other, 3)
		if n != m || k.g.Meter()-ahead != other.Meter()-otherAhead || !slices.Equal(k.g.Words(), other.Words()) {
			t.Fatal("it goes on otherwise on another ground")
		}
		k.load(start)
	}
}

// P19.1, P19.2: where words were set otherwise nothing is promised but that each call ends.
func TestSetOtherwise(t *testing.T) {
	values := []uint32{0, 1, 2, 3, 4, 9, 1 << 20, 1 << 31, most - 1, most}
	for _, register := range values {
		for _, head := range values {
			for _, word := range values {
				k := open(t, small)
				l := k.g.Words()
				for r := range 24 {
					l[r] = register
				}
				for b := range k.c.N {
					at := 24 + k.c.R + b*k.c.W
					for w := range k.c.W {
						l[at+w] = word
					}
					l[at], l[at+1] = uint32(b)|head<<2, head
				}
				for p := range 5 {
					l[phase] = uint32(p)
					if !k.g.Load(l) {
						t.Fatal("Load")
					}
					round.Run(k.g, 50)
					round.Step(k.g)
					round.Units(k.g)
					round.Epochs(k.g)
					round.Quiet(k.g)
				}
			}
		}
	}
}
