package grave_test

import (
	"slices"
	"testing"

	"quitrent/api"
	"quitrent/count"
	"quitrent/grave"
	"quitrent/ground"
	"quitrent/obj"
	"quitrent/pool"
	"quitrent/ring"
	"quitrent/tint"
)

// P14.1, P14.2, P14.3: the chapter's example.
func TestExample(t *testing.T) {
	g, err := ground.New(api.Conf{N: 2, W: 16, R: 1, K: 1})
	if err != api.OK || !pool.Open(g) {
		t.Fatal(err)
	}
	r, _ := obj.Make(g, 2, 0)
	if !grave.Bury(g, r) || grave.Pending(g) != 1 || grave.See(g) != 1 || !slices.Equal(grave.List(g), []int{r}) {
		t.Error("buried:", grave.Pending(g), grave.See(g), grave.List(g))
	}
	for i, pending := range []int{1, 1, 0} {
		if !grave.Step(g) || obj.Is(g, r) != (pending == 1) || grave.Pending(g) != pending || pool.Len(g) != 2-pending {
			t.Errorf("behind the step %d: is there an object: %v, pending: %d, clean: %d", i+1, obj.Is(g, r), grave.Pending(g), pool.Len(g))
		}
	}
	if grave.Step(g) || grave.Release(g) || len(grave.List(g)) != 0 {
		t.Error("there is a step more")
	}
}

// P14.1: objects of each kind are buried, once each; all words behind it, in any phase and at either parity.
func TestBury(t *testing.T) {
	for _, c := range confs {
		for n := range 8 {
			k := open(t, c)
			k.setReg(10, n%2)
			k.setReg(11, n/2)
			l := k.some(t)
			blocks := 0
			for i, r := range l {
				k.setMarks(r, (i+n)%8)
				blocks += obj.Blocks(k.g, r)
				if !k.buried(t, r) || k.buried(t, r) {
					t.Errorf("%v: %d isn't buried once", c, r)
				}
				if grave.Pending(k.g) != blocks || !tint.Dead(k.g, r) {
					t.Errorf("%v: %d blocks are pending, not %d; is %d dead: %v", c, grave.Pending(k.g), blocks, r, tint.Dead(k.g, r))
				}
			}
			if !slices.Equal(grave.List(k.g), l) {
				t.Errorf("%v: the grave is %v, not %v", c, grave.List(k.g), l)
			}
		}
	}
}

// P14.1: what is left of a buried object are all its pointer fields and all its leaves, whatever stood in these words.
func TestLeft(t *testing.T) {
	k := open(t, some)
	for _, m := range []struct{ nptr, ndata, leaves int }{{0, 0, 0}, {10, 0, 0}, {0, 10, 0}, {11, 0, 1}, {1, 10, 1}, {17, 0, 1}, {17, 1, 2}, {0, 35, 3}} {
		r := k.make(t, m.nptr, m.ndata)
		k.buried(t, r)
		if n, l := k.g.SeeWord(r-1, 6), k.g.SeeWord(r-1, 7); int(n) != m.nptr || int(l) != m.leaves {
			t.Errorf("%v: %d fields and %d leaves are left", m, n, l)
		}
	}
}

// P14.1: who is named isn't buried, be it once or as often as a word can say.
func TestBuryNamed(t *testing.T) {
	for _, c := range confs {
		k := open(t, c)
		l := k.some(t)
		k.setReg(11, api.Flooding)
		k.stand(t, l[0])
		k.setReg(14, l[0])
		for _, r := range l {
			for _, n := range []int{1, 2, 255, 256, 65536, 1 << 31, most} {
				k.set(r, 3, n)
				if k.buried(t, r) {
					t.Errorf("%v: %d is buried, though it is named %d times", c, r, n)
				}
			}
			k.set(r, 3, 0)
			if !k.buried(t, r) {
				t.Errorf("%v: %d isn't buried, though nobody names it", c, r)
			}
		}
	}
}

// P14.1: who is dead isn't buried again: neither in the grave, nor killed otherwise, nor with a count.
func TestBuryDead(t *testing.T) {
	k := open(t, small)
	a, b, c := k.make(t, 1, 1), k.make(t, 2, 20), k.make(t, 0, 0)
	tint.Kill(k.g, a)
	k.read()
	k.buried(t, b)
	for _, r := range []int{a, b} {
		for _, n := range []int{0, 1, most} {
			k.set(r, 3, n)
			if k.buried(t, r) {
				t.Errorf("%d is buried again", r)
			}
		}
	}
	if !k.buried(t, c) || !slices.Equal(grave.List(k.g), []int{b, c}) {
		t.Error("the grave:", grave.List(k.g))
	}
}

// P14.1: what is no object's reference: that of a leaf, of a clean block, of one that was taken alone, of one that was ended, of none. Nothing is done.
func TestBuryNone(t *testing.T) {
	for _, c := range confs[1:] {
		k := open(t, c)
		pool.Take(k.g)
		many, ended, one := k.make(t, 3, 2*c.W), k.make(t, 2, 2), k.make(t, 1, 1)
		obj.End(k.g, ended)
		k.read()
		k.setReg(14, ended)
		for r := -2; r <= c.N+3; r++ {
			if r != many && r != one && k.buried(t, r) {
				t.Errorf("%v: %d is buried", c, r)
			}
		}
		for _, r := range far {
			k.setReg(14, max(r, 0)%(most+1))
			if k.buried(t, r) {
				t.Errorf("%v: %d is buried", c, r)
			}
		}
	}
}

// P14.1: a block is an object's head by its kind alone, and is dead by its mark alone.
func TestBuryByKind(t *testing.T) {
	for word := range 1 << 8 {
		// Who has the mark of the ring has to stand there.
		if word>>inRing&1 == 1 {
			continue
		}
		k := open(t, small)
		r := k.make(t, 1, 1)
		k.set(r, 0, word)
		want := (word&3 == api.Small || word&3 == api.Spine) && word>>dead&1 == 0
		if k.buried(t, r) != want {
			t.Errorf("the word %d: buried: %v", word, !want)
		}
	}
}

// P14.1: who stands in the ring is cut from it, wherever it stands; the others stay, and come out in their order.
func TestBuryFromRing(t *testing.T) {
	for size := 1; size <= 4; size++ {
		for at := range size {
			k := open(t, small)
			var l []int
			for i := range size {
				l = append(l, k.make(t, i, 1))
			}
			k.make(t, 3, 3)
			slices.Reverse(l)
			k.setReg(11, api.Flooding)
			k.stand(t, l...)
			r := l[at]
			if !k.buried(t, r) || ring.Has(k.g, r-1) {
				t.Errorf("%d of %d: still in the ring", at, size)
			}
			for _, x := range slices.Delete(l, at, at+1) {
				if b, ok := ring.Take(k.g); b != x-1 || !ok {
					t.Errorf("%d of %d: the ring has %d, %v, not %d", at, size, b, ok, x-1)
				}
			}
			if n := ring.Len(k.g); n != 0 {
				t.Errorf("%d of %d: the ring has %d more", at, size, n)
			}
		}
	}
}

// P14.1: who is scanned is so no more; where another one is, that one stays; the field that is scanned stays in any case.
func TestBuryScanned(t *testing.T) {
	for phase := range 4 {
		k := open(t, small)
		l := k.some(t)
		for _, r := range l {
			start := k.g.Words()
			for _, scanned := range []int{0, r - 1, r, r + 1, small.N, most} {
				k.g.Load(start)
				k.read()
				k.setReg(11, phase)
				k.setReg(14, scanned)
				k.setReg(15, 3)
				k.buried(t, r)
				want := scanned
				if scanned == r {
					want = 0
				}
				if k.g.SeeReg(14) != want || k.g.SeeReg(15) != 3 {
					t.Errorf("%d, of %d: the registers 14 and 15 are %d, %d", r, scanned, k.g.SeeReg(14), k.g.SeeReg(15))
				}
			}
			k.g.Load(start)
			k.read()
		}
	}
}

// P14.2: the fields are drained from the last one on, and each leaf is shed as soon as no pointer field of it is left.
func TestOrder(t *testing.T) {
	k := open(t, small)
	// Of the width 16 it has the leaves 0 and 1 of 15 fields each, and 2 of one field; its pointer fields reach into the leaf 1.
	r, x := k.make(t, 17, 14), k.make(t, 0, 0)
	for i := range 17 {
		k.name(t, r, i, x)
	}
	k.set(x, 3, 100)
	k.buried(t, r)
	k.sheds(t, r, 2)
	k.drains(t, r, 16)
	k.drains(t, r, 15)
	k.sheds(t, r, 1)
	for i := 14; i >= 0; i-- {
		k.drains(t, r, i)
	}
	k.sheds(t, r, 0)
	if !k.stepped(t) || obj.Is(k.g, r) || grave.Pending(k.g) != 0 || len(grave.List(k.g)) != 0 || pool.Len(k.g) != small.N-1 {
		t.Errorf("ended: %d are pending, %d clean", grave.Pending(k.g), pool.Len(k.g))
	}
	if n := count.Of(k.g, x); n != 100-17 || k.stepped(t) {
		t.Errorf("the count is %d, or there is a step more", n)
	}
}

// drains does a step that has to drain the field i of r, which holds something, as do all ahead of it.
func (k *kept) drains(t *testing.T, r, i int) {
	t.Helper()
	leaves := k.g.SeeWord(r-1, 7)
	k.stepped(t)
	o, _ := obj.See(k.g, r)
	if n, l := k.g.SeeWord(r-1, 6), k.g.SeeWord(r-1, 7); int(n) != i || l != leaves {
		t.Errorf("drain %d: %d fields and %d leaves are left", i, n, l)
	}
	for j, x := range o.Ptrs {
		if (x == 0) != (j >= i) {
			t.Errorf("drain %d: the field %d holds %d", i, j, x)
		}
	}
}

// sheds does a step that has to shed a leaf of r.
func (k *kept) sheds(t *testing.T, r, leaf int) {
	t.Helper()
	fields, pending := k.g.SeeWord(r-1, 6), grave.Pending(k.g)
	b := int(k.g.SeeWord(r-1, 8+leaf)) - 1
	k.stepped(t)
	if n, l := k.g.SeeWord(r-1, 6), k.g.SeeWord(r-1, 7); n != fields || int(l) != leaf {
		t.Errorf("shed %d: %d fields and %d leaves are left", leaf, n, l)
	}
	if grave.Pending(k.g) != pending-1 || pool.List(k.g)[0] != b {
		t.Errorf("shed %d: %d are pending, and not %d but %d is clean", leaf, grave.Pending(k.g), b, pool.List(k.g)[0])
	}
}

// P14.2: objects of all sizes around those at which they have a block more: so many steps, and all blocks are clean then.
func TestSizes(t *testing.T) {
	for _, w := range []int{16, 17, 33} {
		c := api.Conf{N: w - 7, W: w, R: 2, K: 1}
		for _, n := range []int{0, 1, w - 9, w - 8, w - 7, w - 2, w - 1, w, 2*w - 2, 2*w - 1, (w - 8) * (w - 1)} {
			for _, nptr := range []int{0, 1, n / 2, w - 1, w, n - 1, n} {
				if nptr < 0 || nptr > n {
					continue
				}
				k := open(t, c)
				r := k.make(t, nptr, n-nptr)
				blocks := obj.Blocks(k.g, r)
				for i := range nptr {
					obj.SetPtr(k.g, r, i, i%(c.N+1))
				}
				k.read()
				k.buried(t, r)
				if steps := k.emptied(t); steps != nptr+blocks || pool.Len(k.g) != c.N {
					t.Errorf("%v, %d of %d: %d steps, and %d are clean", c, nptr, n, steps, pool.Len(k.g))
				}
			}
		}
	}
}

// P14.2: of nobody in the grave there is no step.
func TestNobody(t *testing.T) {
	for _, c := range confs {
		k := open(t, c)
		for range 2 {
			if k.stepped(t) || k.released(t) || grave.List(k.g) != nil || grave.Pending(k.g) != 0 {
				t.Errorf("%v: somebody lies there", c)
			}
			k.some(t)
		}
		r := k.make1(t)
		k.buried(t, r)
		k.emptied(t)
		if k.stepped(t) || k.released(t) {
			t.Errorf("%v: somebody lies there still", c)
		}
	}
}

// make1 answers an object of one block, a new one if there is room.
func (k *kept) make1(t *testing.T) int {
	t.Helper()
	if len(k.pool) > 0 {
		return k.make(t, 1, 1)
	}
	return 1
}

// P14.2: who was buried first is worked on first, till it lies there no more; who is buried by it waits behind all others.
func TestRow(t *testing.T) {
	k := open(t, some)
	a, b, c, d := k.make(t, 1, 0), k.make(t, 20, 5), k.make(t, 2, 2), k.make(t, 1, 1)
	k.name(t, b, 19, d)
	for _, r := range []int{c, b, a} {
		k.buried(t, r)
	}
	for _, want := range [][]int{{c, b, a}, {b, a}, {b, a, d}, {a, d}, {d}, nil} {
		if !slices.Equal(grave.List(k.g), want) {
			t.Fatalf("the grave is %v, not %v", grave.List(k.g), want)
		}
		for slices.Equal(grave.List(k.g), want) && k.stepped(t) {
		}
	}
}

// P14.2: a field that holds nothing, or a name of what is no object: it is 0 then, and nothing else is done.
func TestDrainNone(t *testing.T) {
	for _, sizes := range [][2]int{{1, 0}, {18, 5}} {
		k := open(t, small)
		r, leafy, ended := k.make(t, sizes[0], sizes[1]), k.make(t, 0, 10), k.make(t, 1, 1)
		k.set(ended, 3, 4)
		obj.End(k.g, ended)
		k.read()
		leaf := int(k.g.SeeWord(leafy-1, 8))
		k.set(leaf, 3, 7)
		for _, x := range []int{0, leaf, ended, small.N, small.N + 1, 1 << 20, 1 << 31, most} {
			start := k.g.Words()
			at, _ := k.field(r, sizes[0]-1)
			k.g.Put(at, uint32(x))
			k.read()
			k.buried(t, r)
			k.emptied(t)
			if obj.Is(k.g, r) || k.g.SeeWord(leaf-1, 3) != 7 || !obj.Is(k.g, leafy) {
				t.Errorf("%v: of %d: something else is done", sizes, x)
			}
			k.g.Load(start)
			k.read()
		}
	}
}

// P14.2: whom a field names is named once less; if nobody names it by that, it is buried.
func TestDrainNamed(t *testing.T) {
	for _, sizes := range [][2]int{{1, 0}, {18, 5}} {
		for _, n := range []int{0, 1, 2, 3, 1 << 31, most} {
			for state := range 8 {
				k := open(t, some)
				r, x, y := k.make(t, sizes[0], sizes[1]), k.make(t, 2, 20), k.make(t, 1, 1)
				k.name(t, r, sizes[0]-1, x)
				k.set(x, 3, n)
				k.state(t, state, x, y)
				k.buried(t, r)
				for k.stepped(t) && obj.Is(k.g, r) {
				}
				if want := max(n-1, 0); count.Of(k.g, x) != want || tint.Dead(k.g, x) != (n == 1) {
					t.Errorf("%d, state %d: count %d, dead %v", n, state, count.Of(k.g, x), tint.Dead(k.g, x))
				}
				if tint.Dead(k.g, y) {
					t.Errorf("%d, state %d: another one is buried", n, state)
				}
			}
		}
	}
}

// state lets x be in the ring, ahead of y or behind it, or be scanned, or none of these, by the bits of a number.
func (k *kept) state(t *testing.T, state, x, y int) {
	t.Helper()
	k.setReg(11, api.Flooding)
	switch state & 3 {
	case 1:
		k.stand(t, x, y)
	case 2:
		k.stand(t, y, x)
	case 3:
		k.stand(t, y)
	}
	if state&4 != 0 {
		k.setReg(14, x)
	}
}

// P14.2: who names itself is named once less by that, and lies in the grave once, whatever its count.
func TestDrainSelf(t *testing.T) {
	for _, sizes := range [][2]int{{3, 0}, {20, 5}} {
		for _, n := range []int{0, 1, 2, 3, 4, most} {
			k := open(t, small)
			r := k.make(t, sizes[0], sizes[1])
			for i := range 3 {
				k.name(t, r, i*(sizes[0]-1)/2, r)
			}
			k.set(r, 3, 0)
			k.buried(t, r)
			k.set(r, 3, n)
			for left := sizes[0]; left > 0 || obj.Blocks(k.g, r) > 0; left-- {
				if l := grave.List(k.g); !slices.Equal(l, []int{r}) {
					t.Fatalf("%d times named: the grave is %v", n, l)
				}
				k.stepped(t)
			}
			if grave.Pending(k.g) != 0 || pool.Len(k.g) != small.N {
				t.Errorf("%d times named: %d are pending, %d clean", n, grave.Pending(k.g), pool.Len(k.g))
			}
		}
	}
}

// P14.2: who is dead already and still named is named once less, but not buried again.
func TestDrainDead(t *testing.T) {
	for _, n := range []int{1, 2, 3} {
		k := open(t, small)
		a, x, killed := k.make(t, 4, 0), k.make(t, 1, 1), k.make(t, 1, 1)
		for i := range 2 {
			k.name(t, a, i, x)
			k.name(t, a, i+2, killed)
		}
		tint.Kill(k.g, killed)
		k.set(x, 3, 0)
		k.read()
		k.buried(t, a)
		k.buried(t, x)
		k.set(x, 3, n)
		k.set(killed, 3, n)
		for range 4 {
			k.stepped(t)
		}
		if l := grave.List(k.g); !slices.Equal(l, []int{a, x}) || count.Of(k.g, x) != max(n-2, 0) || count.Of(k.g, killed) != max(n-2, 0) {
			t.Errorf("%d times named: the grave is %v, the counts %d, %d", n, l, count.Of(k.g, x), count.Of(k.g, killed))
		}
		k.emptied(t)
	}
}

// P14.2: who is named by several fields of one, and by none else, is buried by the last of them.
func TestDrainManyFields(t *testing.T) {
	for _, nptr := range []int{8, 40} {
		k := open(t, small)
		r, x := k.make(t, nptr, 0), k.make(t, 0, 0)
		for _, i := range []int{0, 2, nptr - 1} {
			k.name(t, r, i, x)
		}
		k.buried(t, r)
		for count.Of(k.g, x) > 0 {
			if tint.Dead(k.g, x) {
				t.Fatal("buried too early")
			}
			k.stepped(t)
		}
		if n := k.g.SeeWord(r-1, 6); n != 0 || !tint.Dead(k.g, x) {
			t.Errorf("%d fields are left when it is buried: %v", n, tint.Dead(k.g, x))
		}
		k.emptied(t)
	}
}

// P14.2: a field that was counted makes the shadow of whom it names one less, one that wasn't leaves it; at all marks of both, in each phase, at either parity, at each cursor.
func TestLightened(t *testing.T) {
	k := open(t, small)
	r, x, spine := k.make(t, 2, 1), k.make(t, 1, 1), k.make(t, 3, 15)
	for _, from := range []int{r, spine} {
		k.name(t, from, 0, x)
		k.name(t, from, 1, x)
	}
	start := k.g.Words()
	lightened := 0
	for n := range 8 * 8 * 8 * 2 {
		for _, from := range []int{r, spine} {
			for _, shadow := range []int{0, 1, 5, most} {
				for _, at := range [][2]int{{from - 1, 0}, {from - 1, 1}, {from - 1, 2}, {from, 2}, {max(from-2, 0), 2}, {most, most}} {
					k.g.Load(start)
					k.read()
					k.setMarks(from, n%8)
					k.setMarks(x, n/8%8)
					k.set(x, 4, shadow)
					for i, v := range []int{n / 64 % 2, n / 128 % 4, at[0], at[1]} {
						k.setReg(10+i, v)
					}
					k.buried(t, from)
					for k.word(from-1, 6) > 0 {
						k.stepped(t)
					}
					if k.word(x-1, 4) != shadow {
						lightened++
					}
				}
			}
		}
	}
	if lightened == 0 {
		t.Error("no shadow got less")
	}
}

// P14.2: whom a field names, though its count is 0, keeps its shadow; so does who is no object.
func TestNotLightened(t *testing.T) {
	for _, phase := range []int{api.Counting, api.Flooding} {
		for n := range 2 {
			k := open(t, small)
			r, x := k.make(t, 1, 0), k.make(t, 0, 0)
			k.name(t, r, 0, x)
			k.setReg(10, 1)
			k.setReg(11, phase)
			k.setMarks(r, 7)
			k.setMarks(x, 6)
			k.set(x, 4, 5)
			k.set(x, 3, n)
			k.buried(t, r)
			k.stepped(t)
			if shadow := tint.Shadow(k.g, x); shadow != 5-n || tint.Dead(k.g, x) != (n == 1) {
				t.Errorf("%d times named: the shadow is %d, dead: %v", n, shadow, tint.Dead(k.g, x))
			}
		}
	}
}

// P14.2: at most one shadow is one less by a field: a whole count behind which an object dies leaves the shadows of fields that there still are.
func TestShadowsBehindACount(t *testing.T) {
	k := open(t, some)
	a, b, x := k.make(t, 3, 0), k.make(t, 12, 0), k.make(t, 1, 0)
	for _, at := range [][2]int{{a, 0}, {a, 2}, {b, 0}, {b, 11}, {b, 5}, {x, 0}} {
		k.name(t, at[0], at[1], x)
	}
	count.Up(k.g, x)
	for _, r := range []int{a, b, x} {
		tint.Dye(k.g, r)
	}
	tint.Turn(k.g)
	tint.Begin(k.g, api.Counting)
	for range 6 {
		tint.Deepen(k.g, x)
	}
	for _, r := range []int{a, b, x} {
		tint.Done(k.g, r)
	}
	tint.Begin(k.g, api.Flooding)
	k.read()
	for _, m := range []struct{ r, shadow int }{{a, 4}, {b, 1}} {
		k.buried(t, m.r)
		k.emptied(t)
		if n := tint.Shadow(k.g, x); n != m.shadow || count.Of(k.g, x) != m.shadow+1 {
			t.Errorf("behind the end of %d: shadow %d, count %d", m.r, n, count.Of(k.g, x))
		}
	}
}

// P14.2: each Release gives one block, whatever of how many objects it comes by; with nobody there it is false.
func TestRelease(t *testing.T) {
	for _, c := range confs {
		k := open(t, c)
		l := k.some(t)
		for i, r := range l {
			nptr, _, _ := obj.Lens(k.g, r)
			for f := range nptr {
				obj.SetPtr(k.g, r, f, l[(i+f)%len(l)])
			}
		}
		k.read()
		for _, r := range l {
			k.buried(t, r)
		}
		for n := grave.Pending(k.g); n > 0; n-- {
			clean := pool.Len(k.g)
			if !k.released(t) || pool.Len(k.g) != clean+1 || grave.Pending(k.g) != n-1 {
				t.Fatalf("%v: with %d pending: %d clean, and %d pending", c, n, pool.Len(k.g), grave.Pending(k.g))
			}
		}
		if k.released(t) || pool.Len(k.g) != c.N {
			t.Errorf("%v: %d are clean", c, pool.Len(k.g))
		}
	}
}

// P14.2: Release goes on from wherever steps stopped.
func TestReleaseBetween(t *testing.T) {
	for steps := range 40 {
		k := open(t, small)
		r, x := k.make(t, 25, 10), k.make(t, 1, 1)
		k.name(t, r, 20, x)
		k.buried(t, r)
		for range steps {
			k.stepped(t)
		}
		for k.released(t) {
		}
		if pool.Len(k.g) != small.N {
			t.Errorf("behind %d steps: %d are clean", steps, pool.Len(k.g))
		}
	}
}

// P14.2, P14.4: where somebody shed leaves ahead of the burial, or behind it, each block is clean once in the end, and nothing is pending.
func TestShed(t *testing.T) {
	for shed := range 1 << 4 {
		for _, behind := range []bool{false, true} {
			k := open(t, some)
			r, x := k.make(t, 40, 30), k.make(t, 1, 1)
			k.name(t, r, 36, x)
			k.name(t, r, 0, x)
			if behind {
				k.buried(t, r)
			}
			for leaf := range 4 {
				if shed>>leaf&1 == 1 && !obj.Shed(k.g, r, leaf) {
					t.Fatalf("leaf %d isn't shed", leaf)
				}
			}
			k.read()
			k.buried(t, r)
			clean := pool.Len(k.g)
			for k.released(t) {
				if clean++; pool.Len(k.g) != clean {
					t.Errorf("shed %d: %d are clean, not %d", shed, pool.Len(k.g), clean)
				}
			}
			if l := pool.List(k.g); grave.Pending(k.g) != 0 || len(slices.Compact(slices.Sorted(slices.Values(l)))) != len(l) {
				t.Errorf("shed %d: %d are pending, clean are %v", shed, grave.Pending(k.g), l)
			}
		}
	}
}

// P14.1, P14.2, P14.3: of a nil ground there is nothing.
func TestNilGround(t *testing.T) {
	for _, r := range append([]int{1, 2}, far...) {
		if grave.Bury(nil, r) {
			t.Errorf("%d is buried", r)
		}
	}
	if grave.Step(nil) || grave.Release(nil) || grave.Pending(nil) != 0 || grave.See(nil) != 0 || grave.List(nil) != nil {
		t.Error("somebody lies in no ground")
	}
}

// P14.3: what List answers is memory of its own.
func TestListIsOwn(t *testing.T) {
	k := open(t, small)
	for range 3 {
		k.buried(t, k.make(t, 1, 0))
	}
	l := grave.List(k.g)
	l[0], l[2] = 77, 78
	k.check(t, "written into a list")
}
