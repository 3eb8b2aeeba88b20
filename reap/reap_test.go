package reap_test

import (
	"slices"
	"testing"

	"quitrent/api"
	"quitrent/count"
	"quitrent/grave"
	"quitrent/ground"
	"quitrent/link"
	"quitrent/obj"
	"quitrent/pool"
	"quitrent/reap"
	"quitrent/ring"
	"quitrent/tint"
)

// P18.1, P18.3: the chapter's example.
func TestExample(t *testing.T) {
	k := open(t, small)
	a, b := k.born(t, 1, 0), k.born(t, 1, 0)
	k.name(t, a, 0, b)
	k.name(t, b, 0, a)
	k.let(t, a)
	k.let(t, b)
	k.beginFlooded()
	k.must(t, 0, 1)
	if x, err := obj.Ptr(k.g, a, 0); x != 0 || err != api.OK || !slices.Equal(grave.List(k.g), []int{b}) {
		t.Errorf("a names %d, in the grave are %v", x, grave.List(k.g))
	}
	if tint.Dead(k.g, a) || !grave.Step(k.g) || !slices.Equal(grave.List(k.g), []int{b, a}) {
		t.Errorf("behind a step of the grave there are %v", grave.List(k.g))
	}
	for grave.Step(k.g) {
	}
	if obj.Is(k.g, a) || obj.Is(k.g, b) || pool.Len(k.g) != small.N {
		t.Errorf("%d blocks are clean", pool.Len(k.g))
	}
}

// P18.1: no object: each block is a step, whatever the cursor's field is, of those that are clean, of those that were taken alone, and of leaves of one that is dead.
func TestNoObject(t *testing.T) {
	for _, c := range confs {
		k := open(t, c)
		if c.N > 3 {
			tint.Kill(k.g, k.born(t, 0, c.W))
		}
		for n := range 3 {
			k.begin()
			for b := range c.N {
				k.move(b, []int{0, 1, c.W, most}[(b+n)%4])
				k.must(t, b+1, 0)
			}
			if k.step(t) {
				t.Errorf("%v: a step at the end", c)
			}
			if n == 0 {
				pool.Take(k.g)
			}
		}
	}
}

// P18.1: leaves are passed by, whoever's they are, whatever stands in them, and wherever in them the cursor is.
func TestLeaves(t *testing.T) {
	for form := range 3 {
		k := open(t, some)
		x, r := k.born(t, 0, 0), k.born(t, 3*17, 0)
		k.begin()
		for i := range 3 * 17 {
			k.setField(r, i, x)
		}
		k.set(x, countAt, 3*17)
		switch form {
		case 1:
			tint.Paint(k.g, r)
		case 2:
			tint.Kill(k.g, r)
		}
		for leaf := range 3 {
			for _, f := range []int{0, 1, 5, 51, most} {
				k.move(r+leaf, f)
				k.must(t, r+leaf+1, 0)
			}
		}
		if n := count.Of(k.g, x); n != 3*17 {
			t.Errorf("%d: the count is %d", form, n)
		}
	}
}

// P18.1: a cursor at N, or above: there is no step, and nothing is done; one below there is, and whoever is there is looked at.
func TestCursorAtTheEnd(t *testing.T) {
	for _, c := range confs {
		k := open(t, c)
		for pool.Len(k.g) > 0 {
			r := k.born(t, 1, 0)
			k.name(t, r, 0, r)
		}
		k.begin()
		for _, at := range []int{c.N, c.N + 1, c.N * 2, 1 << 20, 1<<31 - 1, 1 << 31, most - 1, most} {
			for _, f := range []int{0, 1, 2, most} {
				k.move(at, f)
				if k.step(t) {
					t.Errorf("%v: a step at %d, %d", c, at, f)
				}
			}
		}
		k.move(c.N-1, 0)
		k.must(t, c.N-1, 1)
		if n := count.Of(k.g, c.N); n != 1 || tint.Black(k.g, c.N) {
			t.Errorf("%v: the count is %d", c, n)
		}
		k.must(t, c.N, 0)
		if k.step(t) || !tint.Black(k.g, c.N) {
			t.Errorf("%v: the last one isn't black, or there is a step", c)
		}
	}
}

// P18.1: in any other phase there is no step, and nothing is done, whoever is at the cursor.
func TestOtherPhases(t *testing.T) {
	for _, c := range confs {
		k := open(t, c)
		l := k.some(t)
		k.fill(l, chance(11))
		k.begin()
		for _, p := range []int{api.Idle, api.Counting, api.Flooding, 4, 5, 7, 259, 1<<16 + 3, 1<<31 + 3, most} {
			k.setReg(phase, p)
			for b := range min(c.N, 10) {
				for f := range 3 {
					k.move(b, f)
					if k.step(t) {
						t.Errorf("%v: a step in the phase %d", c, p)
					}
				}
			}
		}
		k.setReg(phase, api.Reaping)
		k.move(0, 0)
		k.must(t, 1, 0)
	}
}

// P18.1: a nil ground has no step.
func TestNilGround(t *testing.T) {
	if reap.Step(nil) {
		t.Error("a step")
	}
}

// P18.1: objects of any number of pointer fields, also of none, and of words behind them: a step for each pointer field, in their order, which is 0 then, and one that makes the object black; the words stay as they are.
func TestFields(t *testing.T) {
	for _, c := range confs[1:] {
		for _, n := range [][2]int{{0, 0}, {1, 0}, {0, 1}, {0, c.W - 8}, {2, 3}, {c.W - 8, 0}, {c.W - 8, 1}, {0, c.W - 1}, {c.W - 2, 1}, {c.W - 1, 0}, {c.W, 0}, {0, 3 * c.W}, {c.W + 1, c.W}} {
			k := open(t, c)
			first, r, last := k.born(t, 0, 3), k.born(t, n[0], n[1]), k.born(t, 0, 3)
			named := []int{last, 0, first, r}
			for i := range n[0] {
				k.name(t, r, i, named[i%4])
			}
			k.begin()
			k.move(r-1, 0)
			was, _ := obj.See(k.g, r)
			want := was
			want.Ptrs = slices.Clone(was.Ptrs)
			for i := range n[0] {
				k.must(t, r-1, i+1)
				want.Ptrs[i] = 0
				if o, _ := obj.See(k.g, r); !slices.Equal(o.Ptrs, want.Ptrs) || !slices.Equal(o.Data, want.Data) || tint.Black(k.g, r) {
					t.Fatalf("%v, %v: behind the field %d it is %v, not %v", c, n, i, o, want)
				}
			}
			k.must(t, r, 0)
			if !tint.Black(k.g, r) || tint.Dead(k.g, r) || len(grave.List(k.g)) != 0 {
				t.Errorf("%v, %v: it isn't black", c, n)
			}
			for _, x := range []int{first, r, last} {
				if got := count.Of(k.g, x); got != 1 {
					t.Errorf("%v, %v: the count of %d is %d", c, n, x, got)
				}
			}
		}
	}
}

// P18.1: what a field holds: itself, one ahead, one behind, one that is dead, one that is black, one of several blocks, one in the ring, one that is scanned, a leaf, nobody, and what is no object's reference; counted not at all, once, or more often.
func TestNamed(t *testing.T) {
	k := open(t, api.Conf{N: 12, W: 16, R: 3, K: 2})
	ahead, r, behind, killed, black, many := k.born(t, 0, 0), k.born(t, 1, 0), k.born(t, 0, 0), k.born(t, 1, 0), k.born(t, 1, 1), k.born(t, 2, 10)
	inside, scan := k.born(t, 3, 0), k.born(t, 0, 2)
	k.begin()
	tint.Kill(k.g, killed)
	tint.Paint(k.g, black)
	tint.Touch(k.g, inside)
	k.g.SetReg(scanned, scan)
	start := k.g.Words()
	free := []int{ahead, r, behind, black, many, inside, scan}
	for _, x := range append([]int{killed, 0, many + 1, k.c.N, k.c.N + 1, 1 << 8, 1<<20 + 1, 1<<31 + 1, most}, free...) {
		for _, n := range []int{0, 1, 2, 3, 1 << 31, most} {
			k.load(start)
			k.move(r-1, 0)
			k.setField(r, 0, x)
			if k.is(x) {
				k.set(x, countAt, n)
			}
			k.must(t, r-1, 1)
			buried := n == 1 && slices.Contains(free, x)
			if got := grave.List(k.g); slices.Contains(got, x) != buried || len(got) > 1 || tint.Dead(k.g, x) != (buried || x == killed) {
				t.Errorf("%d, counted %d: in the grave are %v", x, n, got)
			}
			if k.is(x) && count.Of(k.g, x) != max(n-1, 0) {
				t.Errorf("%d, counted %d: it is counted %d", x, n, count.Of(k.g, x))
			}
			if y, _ := obj.Ptr(k.g, r, 0); y != 0 || link.Suspect(k.g) {
				t.Errorf("%d, counted %d: the field is %d", x, n, y)
			}
			k.must(t, r, 0)
		}
	}
}

// P18.1: a field that is 0 already, or none of whose names counts, is a step as others are.
func TestNothing(t *testing.T) {
	for _, n := range []int{1, 8, 9, 15, 31} {
		k := open(t, small)
		r := k.born(t, n, 0)
		k.begin()
		for i := range n {
			k.must(t, 0, i+1)
		}
		k.must(t, 1, 0)
		if count.Of(k.g, r) != 1 || tint.Dead(k.g, r) {
			t.Errorf("of %d fields: the count is %d", n, count.Of(k.g, r))
		}
	}
}

// P18.1: a cursor's field that is at the number of fields, or above, makes the object black, and leaves its fields.
func TestFieldAtTheEnd(t *testing.T) {
	for nptr := range 4 {
		for _, f := range []int{nptr, nptr + 1, 5, 15, 16, 1 << 20, 1 << 31, most} {
			k := open(t, small)
			r := k.born(t, nptr, 2)
			for i := range nptr {
				k.name(t, r, i, r)
			}
			k.begin()
			k.move(r-1, f)
			k.must(t, r, 0)
			if !tint.Black(k.g, r) || count.Of(k.g, r) != 1+nptr {
				t.Errorf("the field %d of %d: the count is %d", f, nptr, count.Of(k.g, r))
			}
		}
	}
}

// P18.1: the field below the number of fields is emptied as others are, also where those ahead of it were not.
func TestFieldAhead(t *testing.T) {
	for f := range 3 {
		k := open(t, small)
		r := k.born(t, 3, 0)
		for i := range 3 {
			k.name(t, r, i, r)
		}
		k.begin()
		k.move(r-1, f)
		for i := f; i < 3; i++ {
			k.must(t, r-1, i+1)
		}
		k.must(t, r, 0)
		if got := count.Of(k.g, r); got != 1+f {
			t.Errorf("from the field %d on: the count is %d", f, got)
		}
	}
}

// P18.1: who is dead, and who is black, is passed by in one step, at any field, and stays as it is; so is one that is both.
func TestPassedBy(t *testing.T) {
	for form := 1; form < 4; form++ {
		for _, c := range confs {
			k := open(t, c)
			l := k.some(t)
			k.fill(l, chance(uint32(form)))
			k.begin()
			for _, r := range l {
				if form&1 == 1 {
					tint.Kill(k.g, r)
				}
				if form&2 == 2 {
					tint.Paint(k.g, r)
				}
			}
			was := k.g.Words()
			for _, r := range l {
				for _, f := range []int{0, 1, 2, c.W, most} {
					k.move(r-1, f)
					k.must(t, r, 0)
				}
			}
			k.move(0, 0)
			if n := k.whole(t); n != c.N {
				t.Errorf("%v: %d steps", c, n)
			}
			if !slices.Equal(k.words[24:], was[24:]) {
				t.Errorf("%v: something is changed", c)
			}
		}
	}
}

// P18.1: at all marks of the object and of whom it names, at either parity, at each field, counted once or twice.
func TestMarks(t *testing.T) {
	k := open(t, small)
	r, x := k.born(t, 2, 0), k.born(t, 2, 20)
	for i := range 2 {
		k.setField(r, i, x)
		k.setField(x, i, r)
	}
	start := k.g.Words()
	for n := range 1 << 11 {
		for f := range 4 {
			k.load(start)
			k.setReg(parity, n&1)
			tint.Begin(k.g, api.Reaping)
			k.read()
			for i := range 4 {
				k.setMark(r, color+i, n>>(1+i)&1)
				k.setMark(x, color+i, n>>(5+i)&1)
			}
			k.set(r, countAt, 1+n>>10)
			k.set(x, countAt, 1+n>>10)
			k.set(r, shadowAt, 5)
			k.set(x, shadowAt, 7)
			k.move([]int{r, x}[n>>9&1]-1, f)
			for range 3 {
				k.step(t)
			}
		}
	}
}

// P18.1: leaves that were shed have fields that name nobody; each of them is a step as others are.
func TestShed(t *testing.T) {
	for sheds := range 8 {
		k := open(t, some)
		r := k.born(t, 3*17, 0)
		var l []int
		for i := range 3 {
			l = append(l, k.born(t, 0, 0))
			for j := range 17 {
				k.name(t, r, 17*i+j, l[i])
			}
		}
		k.begin()
		for i := range l {
			if sheds>>i&1 == 1 {
				obj.Shed(k.g, r, i)
			}
		}
		k.read()
		for i := range 3 * 17 {
			k.must(t, 0, i+1)
		}
		k.must(t, 1, 0)
		for i, x := range l {
			if got := count.Of(k.g, x); got != 1+17*(sheds>>i&1) {
				t.Errorf("%d: the count of %d is %d", sheds, x, got)
			}
		}
	}
}

// P18.1: who names itself last, in any of its fields, is buried by that; the next step passes it by, so the fields behind that one are left to the grave.
func TestOwnLastName(t *testing.T) {
	for _, nptr := range []int{1, 2, 5, 8, 9, 20} {
		for at := range nptr {
			k := open(t, small)
			r, x := k.born(t, nptr, 0), k.born(t, 0, 0)
			for i := range nptr {
				k.name(t, r, i, x)
			}
			k.name(t, r, at, r)
			k.let(t, r)
			k.begin()
			for i := range at + 1 {
				k.must(t, r-1, i+1)
			}
			if !slices.Equal(grave.List(k.g), []int{r}) || grave.Pending(k.g) != obj.Blocks(k.g, r) || count.Of(k.g, x) != nptr-at {
				t.Errorf("%d of %d: in the grave are %v, the count is %d", at, nptr, grave.List(k.g), count.Of(k.g, x))
			}
			k.must(t, r, 0)
			if tint.Black(k.g, r) {
				t.Errorf("%d of %d: one that is dead is made black", at, nptr)
			}
			for grave.Step(k.g) {
			}
			if obj.Is(k.g, r) || count.Of(k.g, x) != 1 {
				t.Errorf("%d of %d: the count is %d", at, nptr, count.Of(k.g, x))
			}
		}
	}
}

// P18.1: who is buried lies behind those that lay there ahead, in the order of the fields; all its blocks are pending, and it is cut from the ring, wherever it stood there.
func TestBuried(t *testing.T) {
	for form := range 3 * 8 {
		k := open(t, some)
		r, lain := k.born(t, 4, 0), k.born(t, 2, 9)
		var l []int
		for i, n := range [][2]int{{0, 0}, {11, 0}, {3, 20}} {
			l = append(l, k.born(t, n[0], n[1]))
			k.name(t, r, 3-i, l[i])
		}
		k.begin()
		for i := range l {
			if form>>i&1 == 1 {
				tint.Touch(k.g, l[(i+form/8)%3])
			}
		}
		k.read()
		for _, x := range l {
			k.let(t, x)
		}
		k.let(t, lain)
		want := []int{lain}
		for i, x := range []int{0, l[2], l[1], l[0]} {
			k.must(t, 0, i+1)
			if x != 0 {
				want = append(want, x)
			}
			if got := grave.List(k.g); !slices.Equal(got, want) {
				t.Errorf("%d: in the grave are %v, not %v", form, got, want)
			}
		}
		// Heads, and leaves: 2 of the one that lay there, then 3, 2 and 1.
		if grave.Pending(k.g) != 8 || ring.Len(k.g) != 0 {
			t.Errorf("%d: %d blocks are pending, the ring is %v", form, grave.Pending(k.g), ring.List(k.g))
		}
	}
}

// P18.1: no name that is taken away here is a suspicion; one that was there stays, and so do shadows and all marks but that of the color.
func TestNoSuspicion(t *testing.T) {
	for _, suspicion := range []int{0, 1, 7} {
		k := open(t, small)
		r, x := k.born(t, 2, 0), k.born(t, 0, 0)
		k.name(t, r, 0, x)
		k.name(t, r, 1, r)
		k.let(t, x)
		k.begin()
		for range 3 {
			tint.Deepen(k.g, r)
		}
		k.setReg(16, suspicion)
		k.read()
		k.whole(t)
		if k.g.Reg(16) != suspicion || tint.Shadow(k.g, r) != 3 || tint.Counted(k.g, r, 0) || !tint.Dead(k.g, x) {
			t.Errorf("the suspicion is %d, the shadow %d", k.g.Reg(16), tint.Shadow(k.g, r))
		}
	}
}

// P18.1: other bits of a head's tag are kept, which no tag that is right has.
func TestOtherBits(t *testing.T) {
	for _, bits := range []int{1 << 7, 1 << 8, 1 << 31, most &^ 127} {
		k := open(t, small)
		r := k.born(t, 0, 0)
		k.begin()
		k.set(r, 0, k.word(r, 0)|bits)
		k.must(t, 1, 0)
		if k.word(r, 0)&bits != bits || !tint.Black(k.g, r) {
			t.Errorf("the tag is %d", k.word(r, 0))
		}
	}
}

// P18.1: as many blocks as there may be, a long ring and a long grave, the greatest objects: no step gets longer by it.
func TestAccesses(t *testing.T) {
	for _, c := range []api.Conf{{N: 262144, W: 16, R: 4096, K: 1}, {N: 16384, W: 256, R: 1, K: 65536}} {
		k := open(t, c)
		fields := (c.W - 8) * (c.W - 1)
		a, _ := link.Born(k.g, fields, 0)
		var l []int
		for pool.Len(k.g) > 0 {
			r, _ := link.Born(k.g, 2, 1)
			l = append(l, r)
		}
		for i := range fields {
			link.Put(k.g, a, i, l[i*5%len(l)])
		}
		for i, r := range l {
			link.Put(k.g, r, 0, l[(i+7)%len(l)])
			link.Put(k.g, r, 1, a)
			link.Let(k.g, r)
		}
		link.Let(k.g, a)
		tint.Turn(k.g)
		tint.Begin(k.g, api.Reaping)
		for _, r := range l {
			tint.Touch(k.g, r)
			// It stands in the ring, and is as white as it was.
			k.g.SetWord(r-1, 0, k.g.Word(r-1, 0)^1<<color)
		}
		n := 0
		for ok := true; ok; n++ {
			k.metered(t, func() { ok = reap.Step(k.g) })
		}
		if n-1 < c.N || n-1 > c.N*c.W {
			t.Errorf("%v: %d steps", c, n-1)
		}
		if buried := len(grave.List(k.g)); buried < len(l)/2 || ring.Len(k.g) != len(l)-buried {
			t.Errorf("%v: %d are buried, %d in the ring", c, buried, ring.Len(k.g))
		}
	}
}

// P18.1, and the document's P8: how many accesses there are hangs on no word of an object.
func TestAccessesOfAnyWords(t *testing.T) {
	var want []uint64
	for seed := range 5 {
		k := open(t, some)
		l := k.some(t)
		k.fill(l, chance(3))
		k.counts(l, 9, chance(4))
		for _, r := range l {
			for j := range k.word(r, 2) {
				obj.SetData(k.g, r, j, uint32(seed*j)*2654435761)
			}
		}
		k.begin()
		var got []uint64
		for ok := true; ok; {
			ahead := k.g.Meter()
			ok = reap.Step(k.g)
			got = append(got, k.g.Meter()-ahead)
		}
		if want == nil {
			want = got
		}
		if !slices.Equal(got, want) {
			t.Errorf("accesses %v, and %v", got, want)
		}
	}
}

// P18.1, and the document's P7: all that is known are the ground's words: on another ground with the same ones the reaping goes on, access by access.
func TestWordsAreAll(t *testing.T) {
	k := open(t, some)
	l := k.some(t)
	k.fill(l, chance(5))
	k.counts(l, 9, chance(6))
	k.begin()
	for k.step(t) {
		other, err := ground.New(some)
		if err != api.OK || !other.Load(k.g.Words()) {
			t.Fatal("Load", err)
		}
		start := k.g.Words()
		ahead := k.g.Meter()
		if reap.Step(k.g) != reap.Step(other) || k.g.Meter()-ahead != other.Meter() || !slices.Equal(k.g.Words(), other.Words()) {
			t.Fatal("it goes on otherwise on another ground")
		}
		k.load(start)
	}
}

// P18.1, P18.2: where words were set otherwise nothing is promised but that each call ends.
func TestSetOtherwise(t *testing.T) {
	values := []uint32{0, 1, 2, 3, 4, 8, 9, 1 << 20, 1 << 31, most - 1, most}
	for _, register := range values {
		for _, head := range values {
			for _, word := range values {
				k := open(t, small)
				l := k.g.Words()
				for r := range 24 {
					l[r] = register
				}
				for b := range k.c.N {
					for w := range k.c.W {
						l[k.at(b, w)] = word
					}
					l[k.at(b, 0)] = uint32(b) | head<<2
					l[k.at(b, 1)], l[k.at(b, 2)] = head, word
				}
				for p := range 3 {
					l[phase], l[parity] = api.Reaping, []uint32{0, 1, register}[p]
					if !k.g.Load(l) {
						t.Fatal("Load")
					}
					for b := range k.c.N + 1 {
						for range 3 {
							reap.Step(k.g)
						}
						tint.Move(k.g, b, int(word))
					}
				}
			}
		}
	}
}
