package tally_test

import (
	"slices"
	"testing"

	"quitrent/api"
	"quitrent/ground"
	"quitrent/link"
	"quitrent/obj"
	"quitrent/pool"
	"quitrent/tally"
	"quitrent/tint"
)

// P16.1, P16.2: the chapter's example.
func TestExample(t *testing.T) {
	g, err := ground.New(api.Conf{N: 1, W: 16, R: 1, K: 1})
	if err != api.OK || !pool.Open(g) {
		t.Fatal(err)
	}
	r, err := obj.Make(g, 1, 0)
	if err != api.OK || obj.SetPtr(g, r, 0, r) != api.OK || !tint.Dye(g, r) {
		t.Fatal(err)
	}
	tint.Turn(g)
	tint.Begin(g, api.Counting)
	if !tally.Step(g) || tint.Counted(g, r, 1) || !tint.Counted(g, r, 0) {
		t.Error("the first step counts its field, and not the object")
	}
	if !tally.Step(g) || !tint.Counted(g, r, 1) || tally.Step(g) {
		t.Error("two steps count it")
	}
	if n := tint.Shadow(g, r); n != 1 {
		t.Errorf("its shadow is %d", n)
	}
}

// P16.1: no object: each block is a step, of those that are clean, of those that were taken alone, and of leaves.
func TestNoObject(t *testing.T) {
	for _, c := range confs {
		k := open(t, c)
		for n := range 3 {
			k.begin()
			if got := k.whole(t); got != c.N {
				t.Errorf("%v: %d steps", c, got)
			}
			if n == 0 {
				pool.Take(k.g)
			}
		}
	}
}

// P16.1: a block that is no head's, at any field of the cursor: the cursor comes to the next block's field 0.
func TestOtherBlocks(t *testing.T) {
	for _, f := range []int{0, 1, 2, 15, 16, 1 << 20, most - 1, most} {
		k := open(t, small)
		pool.Take(k.g)
		r := k.born(t, 20, 0)
		k.begin()
		for b := range k.c.N {
			if b == r-1 {
				continue
			}
			tint.Move(k.g, b, f)
			k.read()
			if c, at := k.after(t); c != b+1 || at != 0 {
				t.Errorf("the block %d, at %d: the cursor is %d, %d", b, f, c, at)
			}
		}
	}
}

// after does a step that there has to be, and answers where the cursor is behind it.
func (k *kept) after(t *testing.T) (int, int) {
	t.Helper()
	if !k.step(t) {
		t.Fatalf("%v: no step", k.c)
	}
	return tint.At(k.g)
}

// P16.1: a cursor at N, or above: there is no step, and nothing is done; one below there is.
func TestCursorAtTheEnd(t *testing.T) {
	for _, c := range confs {
		k := open(t, c)
		for pool.Len(k.g) > 0 {
			k.setField(k.born(t, 1, 0), 0, c.N)
		}
		k.begin()
		for _, at := range []int{c.N, c.N + 1, c.N * 2, 1 << 20, 1<<31 - 1, 1 << 31, most - 1, most} {
			for _, f := range []int{0, 1, 2, most} {
				tint.Move(k.g, at, f)
				k.read()
				if k.step(t) {
					t.Errorf("%v: a step at %d, %d", c, at, f)
				}
			}
		}
		tint.Move(k.g, c.N-1, 0)
		k.read()
		if at, f := k.after(t); at != c.N-1 || f != 1 {
			t.Errorf("%v: the cursor is %d, %d", c, at, f)
		}
		if at, f := k.after(t); at != c.N || f != 0 || k.step(t) {
			t.Errorf("%v: the cursor is %d, %d", c, at, f)
		}
	}
}

// P16.1: in any other phase there is no step, and nothing is done.
func TestOtherPhases(t *testing.T) {
	for _, c := range confs {
		for _, p := range []int{api.Idle, api.Flooding, api.Reaping, 4, 5, 257, 1<<16 + 1, most} {
			k := open(t, c)
			l := k.some(t)
			k.fill(l, chance(uint32(p)))
			k.begin()
			k.setReg(phase, p)
			for b := range min(c.N, 20) {
				for f := range 3 {
					tint.Move(k.g, b, f)
					k.read()
					if k.step(t) {
						t.Errorf("%v: a step in the phase %d", c, p)
					}
				}
			}
		}
	}
}

// P16.1: a nil ground has no step.
func TestNilGround(t *testing.T) {
	if tally.Step(nil) {
		t.Error("a step")
	}
}

// P16.1: objects of any number of fields, and of words behind them that aren't fields: a step for each field, and one more; the shadows of those that they name, and no others.
func TestFields(t *testing.T) {
	for _, c := range confs[1:] {
		for _, n := range [][2]int{{0, 0}, {1, 0}, {0, 1}, {0, c.W - 8}, {2, 3}, {c.W - 8, 0}, {c.W - 8, 1}, {0, c.W - 1}, {c.W - 2, 1}, {c.W - 1, 0}, {c.W, 0}, {0, 3 * c.W}, {c.W + 1, c.W}} {
			k := open(t, c)
			first, r, last := k.born(t, 0, 3), k.born(t, n[0], n[1]), k.born(t, 0, 3)
			for i := range n[0] {
				k.setField(r, i, []int{first, last, r, 0}[i%4])
			}
			k.begin()
			tint.Move(k.g, r-1, 0)
			k.read()
			for i := range n[0] {
				if at, f := k.after(t); at != r-1 || f != i+1 {
					t.Fatalf("%v, %v: the cursor is %d, %d behind the field %d", c, n, at, f, i)
				}
				if !tint.Counted(k.g, r, i) || tint.Counted(k.g, r, i+1) {
					t.Fatalf("%v, %v: the field %d isn't counted, or the next one is", c, n, i)
				}
			}
			if at, f := k.after(t); at != r || f != 0 || !tint.Counted(k.g, r, n[0]) {
				t.Errorf("%v, %v: the cursor is %d, %d behind the object", c, n, at, f)
			}
			for i, x := range []int{first, last, r} {
				if got, want := tint.Shadow(k.g, x), (n[0]+3-i)/4; got != want {
					t.Errorf("%v, %v: the shadow of %d is %d, not %d", c, n, x, got, want)
				}
			}
		}
	}
}

// P16.1: what a field names: itself, one ahead, one behind, one that is dead, one that is counted, nobody, and what is no object's reference.
func TestNamed(t *testing.T) {
	k := open(t, small)
	ahead, r, behind, killed, done, many := k.born(t, 0, 0), k.born(t, 1, 0), k.born(t, 0, 0), k.born(t, 0, 0), k.born(t, 0, 0), k.born(t, 0, 20)
	k.begin()
	tint.Kill(k.g, killed)
	tint.Done(k.g, done)
	start := k.g.Words()
	for _, x := range []int{ahead, r, behind, killed, done, many, 0, many + 1, many + 2, small.N, small.N + 1, 1 << 8, 1<<20 + 1, 1<<31 + 1, most} {
		for n := range 3 {
			k.g.Load(start)
			tint.Move(k.g, r-1, 0)
			k.read()
			k.setField(r, 0, x)
			if n > 0 && k.is(x) {
				k.setMark(x, shade, int(k.words[parity]))
				k.set(x, 4, 3*n)
			}
			want := tint.Shadow(k.g, x) + 1
			if !slices.Contains([]int{ahead, r, behind, killed, done, many}, x) {
				want = 0
			}
			k.after(t)
			if got := tint.Shadow(k.g, x); got != want {
				t.Errorf("the shadow of %d is %d, not %d", x, got, want)
			}
			k.after(t)
		}
	}
}

// P16.1: at all marks of the object and of whom it names, at either parity, at each field.
func TestMarks(t *testing.T) {
	k := open(t, small)
	r, x := k.born(t, 2, 0), k.born(t, 2, 20)
	start := k.g.Words()
	for n := range 1 << 11 {
		for f := range 4 {
			k.g.Load(start)
			k.setReg(parity, n%2)
			tint.Begin(k.g, api.Counting)
			k.read()
			for i := range 5 {
				k.setMark(r, color+i, n>>(1+i)%2)
				k.setMark(x, color+i, n>>(6+i)%2)
			}
			k.set(r, 4, 5)
			k.set(x, 4, 7)
			for i := range 2 {
				k.setField(r, i, x)
				k.setField(x, i, r)
			}
			tint.Move(k.g, []int{r, x}[n>>10], f)
			k.read()
			k.after(t)
			k.after(t)
		}
	}
}

// P16.1: one that is counted already is one step, at any field, and whom it names has no shadow of it.
func TestCountedAlready(t *testing.T) {
	for _, c := range confs {
		k := open(t, c)
		l := k.some(t)
		k.begin()
		for _, r := range l {
			for i := range k.word(r-1, 1) {
				k.setField(r, i, l[i%len(l)])
			}
			tint.Done(k.g, r)
			for _, f := range []int{0, 1, 2, c.W, most} {
				tint.Move(k.g, r-1, f)
				k.read()
				if at, f := k.after(t); at != r || f != 0 {
					t.Errorf("%v: the cursor is %d, %d", c, at, f)
				}
			}
		}
		for _, r := range l {
			if n := tint.Shadow(k.g, r); n != 0 {
				t.Errorf("%v: the shadow of %d is %d", c, r, n)
			}
		}
	}
}

// P16.1: one that is dead is counted as any other, also where some of its leaves were shed: whose fields name nobody.
func TestDead(t *testing.T) {
	for sheds := range 4 {
		k := open(t, some)
		x, r := k.born(t, 0, 0), k.born(t, 3*17, 0)
		for i := range 3 * 17 {
			k.setField(r, i, x)
		}
		k.begin()
		tint.Kill(k.g, r)
		for i := range sheds {
			obj.Shed(k.g, r, (i+1)%3)
		}
		k.read()
		k.whole(t)
		if n := tint.Shadow(k.g, x); n != (3-sheds)*17 || !tint.Counted(k.g, r, 0) {
			t.Errorf("%d leaves are shed: the shadow is %d", sheds, n)
		}
	}
}

// P16.1: a cursor's field that is at the number of fields, or above, lets the object be counted.
func TestFieldAtTheEnd(t *testing.T) {
	for _, f := range []int{3, 4, 5, 15, 16, 1 << 20, 1 << 31, most} {
		k := open(t, small)
		r := k.born(t, 3, 2)
		k.fill([]int{r}, chance(3))
		k.begin()
		tint.Move(k.g, r-1, f)
		k.read()
		if c, at := k.after(t); c != r || at != 0 || !tint.Counted(k.g, r, 0) || tint.Shadow(k.g, r) != 0 {
			t.Errorf("the field %d: the cursor is %d, %d, the shadow %d", f, c, at, tint.Shadow(k.g, r))
		}
	}
}

// P16.1: a shadow that a word can say no more of stays, and the count goes on.
func TestGreatestShadow(t *testing.T) {
	k := open(t, small)
	r := k.born(t, 3, 0)
	for i := range 3 {
		k.setField(r, i, r)
	}
	k.begin()
	tint.Deepen(k.g, r)
	k.read()
	k.set(r, 4, most-1)
	k.after(t)
	for tally.Step(k.g) {
	}
	if n := tint.Shadow(k.g, r); n != most || !tint.Counted(k.g, r, 0) {
		t.Errorf("the shadow is %d", n)
	}
}

// P16.1: as many blocks as there may be, the greatest objects: no step gets longer by it.
func TestAccesses(t *testing.T) {
	for _, c := range []api.Conf{{N: 262144, W: 16, R: 4096, K: 1}, {N: 16384, W: 256, R: 1, K: 65536}} {
		k := open(t, c)
		fields := (c.W - 8) * (c.W - 1)
		a, _ := link.Born(k.g, fields, 0)
		var l []int
		for pool.Len(k.g) > 0 {
			r, _ := link.Born(k.g, 2, 1)
			l = append(l, r)
		}
		for i, r := range l {
			obj.SetPtr(k.g, r, 0, l[(i*7+1)%len(l)])
			obj.SetPtr(k.g, r, 1, a)
		}
		for i := range fields {
			obj.SetPtr(k.g, a, i, l[i%len(l)])
		}
		tint.Turn(k.g)
		tint.Begin(k.g, api.Counting)
		n := 0
		for ok := true; ok; n++ {
			k.metered(t, func() { ok = tally.Step(k.g) })
		}
		if want := fields + c.W - 7 + 3*len(l); n-1 != want {
			t.Errorf("%v: %d steps, not %d", c, n-1, want)
		}
		if got := tint.Shadow(k.g, a); got != len(l) {
			t.Errorf("%v: the shadow is %d, not %d", c, got, len(l))
		}
	}
}

// P16.1, and the document's P8: how many accesses there are hangs on no word of an object.
func TestAccessesOfAnyWords(t *testing.T) {
	var want []uint64
	for seed := range 5 {
		k := open(t, some)
		l := k.some(t)
		for i, r := range l {
			for j := range k.word(r-1, 2) {
				obj.SetData(k.g, r, j, uint32(seed*j)*2654435761)
			}
			for j := range k.word(r-1, 1) {
				obj.SetPtr(k.g, r, j, l[(i+j)%len(l)])
			}
		}
		k.begin()
		var got []uint64
		for ok := true; ok; {
			ahead := k.g.Meter()
			ok = tally.Step(k.g)
			got = append(got, k.g.Meter()-ahead)
		}
		if want == nil {
			want = got
		}
		if !slices.Equal(got, want) {
			t.Errorf("accesses %v, and %v", got, want)
		}
	}
}

// P16.1, P16.2: where words were set otherwise nothing is promised but that each call ends.
func TestSetOtherwise(t *testing.T) {
	values := []uint32{0, 1, 2, 3, 4, 8, 9, 1 << 20, 1 << 31, most - 1, most}
	for _, register := range values {
		for _, head := range values {
			for _, word := range values {
				k := open(t, small)
				l := k.g.Words()
				for r := range 24 {
					l[r] = register
				}
				for b := range k.c.N {
					for w := range k.c.W {
						l[k.at(b, w)] = word
					}
					l[k.at(b, 0)] = uint32(b) | head<<2
					l[k.at(b, 1)], l[k.at(b, 2)] = head, word
				}
				for p := range 3 {
					l[phase], l[parity] = api.Counting, []uint32{0, 1, register}[p]
					if !k.g.Load(l) {
						t.Fatal("Load")
					}
					for b := range k.c.N + 1 {
						for range 3 {
							tally.Step(k.g)
						}
						tint.Move(k.g, b, int(word))
					}
				}
			}
		}
	}
}
