package flood_test

import (
	"slices"
	"testing"

	"quitrent/api"
	"quitrent/count"
	"quitrent/flood"
	"quitrent/grave"
	"quitrent/ground"
	"quitrent/link"
	"quitrent/obj"
	"quitrent/pool"
	"quitrent/ring"
	"quitrent/tint"
)

// P17.1, P17.3: the chapter's example.
func TestExample(t *testing.T) {
	k := open(t, small)
	a, b, c, d := k.born(t, 1, 0), k.born(t, 1, 0), k.born(t, 0, 0), k.born(t, 1, 0)
	for _, n := range [][2]int{{a, b}, {b, c}, {d, d}} {
		if link.Put(k.g, n[0], 0, n[1]) != api.OK || n[1] != d && !link.Let(k.g, n[1]) {
			t.Fatal(n)
		}
	}
	link.Let(k.g, d)
	k.beginCounted()
	was := k.g.Words()[k.at(d-1, 0):k.at(d, 0)]
	k.whole(t)
	for _, r := range []int{a, b, c} {
		if !tint.Black(k.g, r) {
			t.Errorf("%d isn't black", r)
		}
	}
	if now := k.g.Words()[k.at(d-1, 0):k.at(d, 0)]; !slices.Equal(now, was) || tint.Black(k.g, d) || tint.Shadow(k.g, d) != 1 {
		t.Errorf("d was %v, and is %v", was, now)
	}
}

// P17.1: no object: each block is a step, of those that are clean, of those that were taken alone, and of leaves of one that is dead.
func TestNoObject(t *testing.T) {
	for _, c := range confs {
		k := open(t, c)
		if c.N > 3 {
			tint.Kill(k.g, k.born(t, 0, c.W))
		}
		for n := range 3 {
			k.begin()
			if got := k.whole(t); got != c.N {
				t.Errorf("%v: %d steps", c, got)
			}
			if at, f := tint.At(k.g); at != c.N || f != 0 {
				t.Errorf("%v: the cursor is %d, %d", c, at, f)
			}
			if n == 0 {
				pool.Take(k.g)
			}
		}
	}
}

// P17.1: a cursor at N, or above: there is no step, and nothing is done; one below there is, and whoever is there is looked at.
func TestCursorAtTheEnd(t *testing.T) {
	for _, c := range confs {
		k := open(t, c)
		for pool.Len(k.g) > 0 {
			k.born(t, 1, 0)
		}
		k.begin()
		for _, at := range []int{c.N, c.N + 1, c.N * 2, 1 << 20, 1<<31 - 1, 1 << 31, most - 1, most} {
			for _, f := range []int{0, 1, 2, most} {
				tint.Move(k.g, at, f)
				k.read()
				if k.step(t) {
					t.Errorf("%v: a step at %d, %d", c, at, f)
				}
			}
		}
		tint.Move(k.g, c.N-1, 0)
		k.read()
		k.must(t)
		if at, _ := tint.At(k.g); at != c.N || !tint.Black(k.g, c.N) || ring.Len(k.g) != 1 {
			t.Errorf("%v: the cursor is %d", c, at)
		}
		// It stands in the ring: it is taken, its field is scanned, and it is let be.
		if n := k.whole(t); n != 3 {
			t.Errorf("%v: %d steps", c, n)
		}
	}
}

// P17.1: a cursor at N, or above, is no end as long as one is scanned, or stands in the ring.
func TestCursorAtTheEndWithOthers(t *testing.T) {
	for _, at := range []int{small.N, small.N + 1, most} {
		for form := range 4 {
			k := open(t, small)
			r, x := k.born(t, 2, 0), k.born(t, 1, 0)
			k.begin()
			want := 0
			if form&1 == 1 {
				k.setReg(scanned, r)
				want += 3
			}
			if form&2 == 2 {
				k.touched(t, x)
				want += 3
			}
			tint.Move(k.g, at, 7)
			k.read()
			if n := k.whole(t); n != want {
				t.Errorf("at %d, %d: %d steps, not %d", at, form, n, want)
			}
			if c, f := tint.At(k.g); c != at || f != 7 {
				t.Errorf("at %d: the cursor is %d, %d", at, c, f)
			}
		}
	}
}

// P17.1: the cursor's field is nobody's, and stays.
func TestCursorsField(t *testing.T) {
	for _, f := range []int{0, 1, 5, 1 << 20, 1 << 31, most} {
		k := open(t, small)
		k.fill(k.some(t), chance(8))
		k.begin()
		tint.Move(k.g, 0, f)
		k.read()
		k.whole(t)
		if c, at := tint.At(k.g); c != small.N || at != f {
			t.Errorf("the cursor is %d, %d", c, at)
		}
	}
}

// P17.1: in any other phase there is no step, and nothing is done, whoever is scanned, stands in the ring or at the cursor.
func TestOtherPhases(t *testing.T) {
	for _, c := range confs {
		k := open(t, c)
		l := k.some(t)
		k.fill(l, chance(11))
		k.begin()
		start := k.g.Words()
		for _, p := range []int{api.Idle, api.Counting, api.Reaping, 4, 5, 258, 1<<16 + 2, 1<<31 + 2, most} {
			for form := range 4 {
				k.load(start)
				if form&1 == 1 {
					k.setReg(scanned, l[len(l)/2])
				}
				if form&2 == 2 {
					k.touched(t, l[0])
				}
				k.setReg(phase, p)
				for b := range min(c.N, 10) {
					k.setReg(cursor, b)
					if k.step(t) {
						t.Errorf("%v: a step in the phase %d", c, p)
					}
				}
				k.setReg(phase, api.Flooding)
				k.must(t)
			}
		}
	}
}

// P17.1: a nil ground has no step.
func TestNilGround(t *testing.T) {
	if flood.Step(nil) {
		t.Error("a step")
	}
}

// P17.1: the register 14 has nobody, and nobody stands in the ring: the cursor goes on, whatever the register 15 is.
func TestNobodyScanned(t *testing.T) {
	for _, i := range []int{0, 1, 3, 1 << 31, most} {
		k := open(t, small)
		r := k.born(t, 3, 0)
		k.fill([]int{r}, chance(uint32(i)))
		k.begin()
		k.setReg(scannedField, i)
		k.must(t)
		if c, _ := tint.At(k.g); c != 1 || k.g.Reg(scanned) != 0 || k.g.Reg(scannedField) != i || !slices.Equal(ring.List(k.g), []int{r - 1}) {
			t.Errorf("at %d: the cursor is %d, the ring %v", i, c, ring.List(k.g))
		}
	}
}

// P17.1: objects of any number of pointer fields, and of words behind them that aren't such: a step for each field, and one that lets the object be; whom they name come into the ring in the fields' order, and no others.
func TestFields(t *testing.T) {
	for _, c := range confs[1:] {
		for _, n := range [][2]int{{0, 0}, {1, 0}, {0, 1}, {0, c.W - 8}, {2, 3}, {c.W - 8, 0}, {c.W - 8, 1}, {0, c.W - 1}, {c.W - 2, 1}, {c.W - 1, 0}, {c.W, 0}, {0, 3 * c.W}, {c.W + 1, c.W}} {
			k := open(t, c)
			first, r, last := k.born(t, 0, 3), k.born(t, n[0], n[1]), k.born(t, 0, 3)
			named := []int{last, 0, first, r}
			for i := range n[0] {
				k.setField(r, i, named[i%4])
			}
			k.begin()
			k.setReg(scanned, r)
			var want []int
			for i := range n[0] {
				if x := named[i%4]; i < 4 && x != 0 {
					want = append(want, x-1)
				}
				k.must(t)
				if k.g.Reg(scanned) != r || k.g.Reg(scannedField) != i+1 || !slices.Equal(ring.List(k.g), want) {
					t.Fatalf("%v, %v: %d is scanned, at %d, the ring is %v", c, n, k.g.Reg(scanned), k.g.Reg(scannedField), ring.List(k.g))
				}
			}
			k.must(t)
			if k.g.Reg(scanned) != 0 || k.g.Reg(scannedField) != n[0] || !slices.Equal(ring.List(k.g), want) {
				t.Errorf("%v, %v: %d is scanned, at %d, the ring is %v", c, n, k.g.Reg(scanned), k.g.Reg(scannedField), ring.List(k.g))
			}
			if at, _ := tint.At(k.g); at != 0 {
				t.Errorf("%v, %v: the cursor is %d", c, n, at)
			}
		}
	}
}

// P17.1: what a scanned field holds: itself, one ahead, one behind, one that is dead, one that is black, one of several blocks, one in the ring, nobody, and what is no object's reference.
func TestNamed(t *testing.T) {
	k := open(t, small)
	ahead, r, behind, killed, black, many, inside := k.born(t, 0, 0), k.born(t, 1, 0), k.born(t, 0, 0), k.born(t, 0, 0), k.born(t, 0, 0), k.born(t, 0, 10), k.born(t, 0, 0)
	k.begin()
	tint.Kill(k.g, killed)
	tint.Paint(k.g, black)
	start := k.g.Words()
	free := []int{ahead, r, behind, many}
	for _, x := range []int{ahead, r, behind, killed, black, many, inside, 0, many + 1, small.N, small.N + 1, 1 << 8, 1<<20 + 1, 1<<31 + 1, most} {
		for form := range 4 {
			k.load(start)
			k.touched(t, inside)
			if form&1 == 1 {
				tint.Paint(k.g, r)
			}
			if form&2 == 2 {
				tint.Move(k.g, 5, 5)
			}
			k.read()
			k.setReg(scanned, r)
			k.setField(r, 0, x)
			want := []int{inside - 1}
			if slices.Contains(free, x) && (x != r || form&1 == 0) {
				want = append(want, x-1)
			}
			k.must(t)
			if l := ring.List(k.g); !slices.Equal(l, want) || k.g.Reg(scanned) != r || k.g.Reg(scannedField) != 1 {
				t.Errorf("of %d the ring is %v, not %v", x, l, want)
			}
			k.must(t)
			if k.g.Reg(scanned) != 0 {
				t.Errorf("%d is scanned", k.g.Reg(scanned))
			}
		}
	}
}

// P17.1: a place in the scanned object that is at the number of its pointer fields, or above: it is let be, and the place stays.
func TestPlaceAtTheEnd(t *testing.T) {
	for nptr := range 4 {
		for _, i := range []int{nptr, nptr + 1, 5, 15, 16, 1 << 20, 1 << 31, most} {
			k := open(t, small)
			r := k.born(t, nptr, 3)
			k.begin()
			k.setReg(scanned, r)
			k.setReg(scannedField, i)
			k.must(t)
			if k.g.Reg(scanned) != 0 || k.g.Reg(scannedField) != i || ring.Len(k.g) != 0 {
				t.Errorf("%d is scanned, at %d, the ring is %v", k.g.Reg(scanned), k.g.Reg(scannedField), ring.List(k.g))
			}
		}
	}
}

// P17.1: leaves that were shed have fields that name nobody; each of them is a step as others are.
func TestShed(t *testing.T) {
	for sheds := range 8 {
		k := open(t, some)
		r := k.born(t, 3*17, 0)
		var l []int
		for range 3 {
			l = append(l, k.born(t, 0, 0))
		}
		for i := range 3 * 17 {
			k.setField(r, i, l[i/17])
		}
		k.begin()
		var want []int
		for i, x := range l {
			if sheds>>i&1 == 1 {
				obj.Shed(k.g, r, i)
			} else {
				want = append(want, x-1)
			}
		}
		k.read()
		k.setReg(scanned, r)
		for range 3*17 + 1 {
			k.must(t)
		}
		if !slices.Equal(ring.List(k.g), want) || k.g.Reg(scanned) != 0 {
			t.Errorf("the ring is %v, not %v", ring.List(k.g), want)
		}
	}
}

// P17.1: a ring of none, of one, of several: the first one is taken to be scanned from its field 0 on, ahead of all blocks at the cursor.
func TestRing(t *testing.T) {
	for many := range 6 {
		k := open(t, some)
		var l []int
		for range 5 {
			l = append(l, k.born(t, 2, 0))
		}
		k.begin()
		in := []int{l[3], l[0], l[4], l[2], l[1]}[:many]
		for _, r := range in {
			k.touched(t, r)
		}
		for i, r := range in {
			k.setReg(scannedField, 40+i)
			k.must(t)
			if k.g.Reg(scanned) != r || k.g.Reg(scannedField) != 0 || ring.Len(k.g) != many-i-1 || ring.Has(k.g, r-1) {
				t.Errorf("of %v %d is scanned, at %d", in, k.g.Reg(scanned), k.g.Reg(scannedField))
			}
			// Its two fields, and the end of it.
			for range 3 {
				k.must(t)
			}
		}
		if c, _ := tint.At(k.g); c != 0 {
			t.Errorf("the cursor is %d", c)
		}
		k.must(t)
		if c, _ := tint.At(k.g); c != 1 || k.g.Reg(scanned) != 0 {
			t.Errorf("the cursor is %d", c)
		}
	}
}

// P17.1: as long as one is scanned, nobody is taken out of the ring, and the cursor stays.
func TestScannedFirst(t *testing.T) {
	k := open(t, small)
	r, x := k.born(t, 4, 0), k.born(t, 0, 0)
	k.begin()
	k.touched(t, x)
	k.setReg(scanned, r)
	for i := range 5 {
		k.must(t)
		if c, _ := tint.At(k.g); c != 0 || ring.Len(k.g) != 1 || k.g.Reg(scanned) == x {
			t.Errorf("step %d: the cursor is %d, the ring %v", i, c, ring.List(k.g))
		}
	}
	k.must(t)
	if k.g.Reg(scanned) != x || ring.Len(k.g) != 0 {
		t.Errorf("%d is scanned", k.g.Reg(scanned))
	}
}

// P17.1: at the cursor, at all marks, at either parity, with a count below the shadow, at it and above it: who is touched, and that the shadow is kept, and is of this epoch from then on.
func TestMarksAtTheCursor(t *testing.T) {
	for _, nptr := range []int{0, 20} {
		k := open(t, small)
		k.born(t, 0, 0)
		r := k.born(t, nptr, 0)
		start := k.g.Words()
		for n := range 1 << 5 {
			for _, has := range [][2]int{{0, 0}, {1, 0}, {0, 1}, {1, 1}, {2, 1}, {1, 2}, {5, 7}, {7, 7}, {8, 7}, {most, most - 1}, {most, most}, {most - 1, most}, {1 << 31, 1<<31 - 1}, {1<<31 - 1, 1 << 31}} {
				k.load(start)
				k.setReg(parity, n&1)
				tint.Begin(k.g, api.Flooding)
				for i := range 4 {
					k.read()
					k.setMark(r, color+i, n>>(i+1)&1)
				}
				k.set(r, countAt, has[0])
				k.set(r, shadowAt, has[1])
				tint.Move(k.g, r-1, 0)
				k.read()
				black, killed, shadow := tint.Black(k.g, r), tint.Dead(k.g, r), tint.Shadow(k.g, r)
				k.must(t)
				touched := !black && !killed && has[0] > shadow
				if ring.Has(k.g, r-1) != touched || tint.Black(k.g, r) != (black || touched) {
					t.Errorf("%d, %v: touched: %v", n, has, ring.Has(k.g, r-1))
				}
				if tint.Shadow(k.g, r) != shadow || count.Of(k.g, r) != has[0] {
					t.Errorf("%d, %v: the shadow is %d", n, has, tint.Shadow(k.g, r))
				}
				if !killed && (k.bit(r, shade) != n&1 || k.word(r, shadowAt) != shadow) {
					t.Errorf("%d, %v: the mark is %d, the word 4 %d", n, has, k.bit(r, shade), k.word(r, shadowAt))
				}
				if c, _ := tint.At(k.g); c != r {
					t.Errorf("%d, %v: the cursor is %d", n, has, c)
				}
			}
		}
	}
}

// P17.1: at all marks of the one that is scanned and of the one that it names, at either parity, with steps till there is none: dead ones that stand in the ring, too.
func TestMarks(t *testing.T) {
	k := open(t, small)
	r, x := k.born(t, 2, 0), k.born(t, 2, 20)
	for i := range 2 {
		k.setField(r, i, x)
		k.setField(x, i, r)
	}
	start := k.g.Words()
	for n := range 1 << 9 {
		for form := range 3 {
			k.load(start)
			k.setReg(parity, n&1)
			tint.Begin(k.g, api.Flooding)
			k.read()
			for i := range 4 {
				k.setMark(r, color+i, n>>(1+i)&1)
				k.setMark(x, color+i, n>>(5+i)&1)
			}
			if form > 0 {
				ring.Add(k.g, []int{r, x}[form-1]-1)
			} else {
				k.setReg(scanned, r)
			}
			k.set(r, countAt, n&1)
			k.set(x, shadowAt, n>>1&1)
			k.read()
			k.whole(t)
		}
	}
}

// P17.1: a dead object below the cursor, or at it, is passed by; whom it names as well, and its shadow stays of the epoch of which it was.
func TestDead(t *testing.T) {
	k := open(t, small)
	r, x := k.born(t, 1, 0), k.born(t, 0, 0)
	link.Put(k.g, r, 0, x)
	link.Let(k.g, x)
	link.Let(k.g, r)
	tint.Turn(k.g)
	tint.Begin(k.g, api.Flooding)
	k.read()
	// The two steps are those of x.
	if n := k.whole(t); n != small.N+2 || tint.Black(k.g, r) || k.mark(r, shade) {
		t.Errorf("%d steps, black: %v", n, tint.Black(k.g, r))
	}
	if !tint.Black(k.g, x) || !k.mark(x, shade) {
		t.Error("whose count is above its shadow is black, whoever names it")
	}
}

// P17.1: one that is scanned is buried midway: the next step isn't its.
func TestBuriedMidway(t *testing.T) {
	for steps := range 5 {
		k := open(t, small)
		r, x := k.born(t, 3, 0), k.born(t, 0, 0)
		k.begin()
		for range 2 + steps {
			k.must(t)
		}
		link.Let(k.g, r)
		if steps < 4 && k.g.Reg(scanned) != 0 {
			t.Fatalf("%d is scanned", k.g.Reg(scanned))
		}
		k.read()
		k.must(t)
		for grave.Step(k.g) {
		}
		k.read()
		k.whole(t)
		if obj.Is(k.g, r) || !tint.Black(k.g, x) || ring.Len(k.g) != 0 || k.g.Reg(scanned) != 0 {
			t.Errorf("%d steps: the ring is %v, %d is scanned", steps, ring.List(k.g), k.g.Reg(scanned))
		}
	}
}

// P17.1: other bits of a head's tag are kept, which no tag that is right has.
func TestOtherBits(t *testing.T) {
	for _, bits := range []int{1 << 7, 1 << 8, 1 << 31, most &^ 127} {
		k := open(t, small)
		r := k.born(t, 0, 0)
		k.begin()
		k.set(r, 0, k.word(r, 0)|bits)
		k.must(t)
		if k.word(r, 0)&bits != bits {
			t.Errorf("the tag is %d", k.word(r, 0))
		}
	}
}

// P17.1: as many blocks as there may be, a long ring, the greatest objects: no step gets longer by it.
func TestAccesses(t *testing.T) {
	for _, c := range []api.Conf{{N: 262144, W: 16, R: 4096, K: 1}, {N: 16384, W: 256, R: 1, K: 65536}} {
		k := open(t, c)
		fields := (c.W - 8) * (c.W - 1)
		a, _ := link.Born(k.g, fields, 0)
		var l []int
		for pool.Len(k.g) > 0 {
			r, _ := link.Born(k.g, 2, 1)
			l = append(l, r)
		}
		for i, r := range l {
			obj.SetPtr(k.g, r, 0, l[(i*7+1)%len(l)])
			obj.SetPtr(k.g, r, 1, a)
		}
		for i := range fields {
			obj.SetPtr(k.g, a, i, l[i*5%len(l)])
		}
		tint.Turn(k.g)
		tint.Begin(k.g, api.Flooding)
		for i, r := range l {
			if i%3 == 0 {
				tint.Touch(k.g, r)
			}
		}
		n := 0
		for ok := true; ok; n++ {
			k.metered(t, func() { ok = flood.Step(k.g) })
		}
		if want := c.N + fields + 2 + 4*len(l); n-1 != want {
			t.Errorf("%v: %d steps, not %d", c, n-1, want)
		}
	}
}

// P17.1, and the document's P8: how many accesses there are hangs on no word of an object.
func TestAccessesOfAnyWords(t *testing.T) {
	var want []uint64
	for seed := range 5 {
		k := open(t, some)
		l := k.some(t)
		k.fill(l, chance(3))
		for _, r := range l {
			for j := range k.word(r, 2) {
				obj.SetData(k.g, r, j, uint32(seed*j)*2654435761)
			}
		}
		k.begin()
		var got []uint64
		for ok := true; ok; {
			ahead := k.g.Meter()
			ok = flood.Step(k.g)
			got = append(got, k.g.Meter()-ahead)
		}
		if want == nil {
			want = got
		}
		if !slices.Equal(got, want) {
			t.Errorf("accesses %v, and %v", got, want)
		}
	}
}

// P17.1, and the document's P7: all that is known are the ground's words: on another ground with the same ones the flood goes on, access by access.
func TestWordsAreAll(t *testing.T) {
	k := open(t, some)
	k.fill(k.some(t), chance(5))
	k.begin()
	for k.step(t) {
		other, err := ground.New(some)
		if err != api.OK || !other.Load(k.g.Words()) {
			t.Fatal("Load", err)
		}
		start := k.g.Words()
		ahead := k.g.Meter()
		if flood.Step(k.g) != flood.Step(other) || k.g.Meter()-ahead != other.Meter() || !slices.Equal(k.g.Words(), other.Words()) {
			t.Fatal("it goes on otherwise on another ground")
		}
		k.load(start)
	}
}

// P17.1, P17.2: where words were set otherwise nothing is promised but that each call ends.
func TestSetOtherwise(t *testing.T) {
	values := []uint32{0, 1, 2, 3, 4, 8, 9, 1 << 20, 1 << 31, most - 1, most}
	for _, register := range values {
		for _, head := range values {
			for _, word := range values {
				k := open(t, small)
				l := k.g.Words()
				for r := range 24 {
					l[r] = register
				}
				for b := range k.c.N {
					for w := range k.c.W {
						l[k.at(b, w)] = word
					}
					l[k.at(b, 0)] = uint32(b) | head<<2
					l[k.at(b, 1)], l[k.at(b, 2)] = head, word
				}
				for p := range 3 {
					l[phase], l[parity] = api.Flooding, []uint32{0, 1, register}[p]
					if !k.g.Load(l) {
						t.Fatal("Load")
					}
					for b := range k.c.N + 1 {
						for range 3 {
							flood.Step(k.g)
						}
						tint.Move(k.g, b, int(word))
						k.g.SetReg(scanned, []int{0, b, int(word)}[b%3])
					}
				}
			}
		}
	}
}
