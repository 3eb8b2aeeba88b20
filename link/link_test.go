package link_test

import (
	"slices"
	"testing"

	"quitrent/api"
	"quitrent/count"
	"quitrent/grave"
	"quitrent/ground"
	"quitrent/link"
	"quitrent/obj"
	"quitrent/pool"
	"quitrent/ring"
	"quitrent/tint"
)

// P15.1, P15.2, P15.3, P15.4: the chapter's example.
func TestExample(t *testing.T) {
	g, err := ground.New(api.Conf{N: 2, W: 16, R: 1, K: 1})
	if err != api.OK || !pool.Open(g) {
		t.Fatal(err)
	}
	r, err := link.Born(g, 1, 0)
	if r != 1 || err != api.OK || count.Of(g, 1) != 1 || link.Suspect(g) {
		t.Errorf("Born: %d, %d, its count %d", r, err, count.Of(g, 1))
	}
	if err := link.Put(g, 1, 0, 1); err != api.OK || count.Of(g, 1) != 2 || link.Suspect(g) {
		t.Errorf("Put: %d, its count %d", err, count.Of(g, 1))
	}
	if !link.Let(g, 1) || count.Of(g, 1) != 1 || tint.Dead(g, 1) || !link.Suspect(g) {
		t.Errorf("Let: its count %d, is it dead: %v, is there a suspicion: %v", count.Of(g, 1), tint.Dead(g, 1), link.Suspect(g))
	}
}

// P15.1: objects of each kind, in any phase and at either parity: all words, one hold, the marks of this epoch, and none in the ring.
func TestBorn(t *testing.T) {
	for _, c := range confs {
		for n := range 8 {
			k := open(t, c)
			k.setReg(11, n/2)
			for i, sizes := range [][2]int{{0, 0}, {3, 2}, {c.W - 8, 1}, {0, 2 * c.W}, {20, 5}} {
				k.setReg(10, (n+i)%2)
				r, err := k.bornOr(t, sizes[0], sizes[1])
				if err != api.OK {
					continue
				}
				if count.Of(k.g, r) != 1 || !tint.Black(k.g, r) || !tint.Counted(k.g, r, 0) || tint.Shadow(k.g, r) != 0 || tint.Dead(k.g, r) || ring.Has(k.g, r-1) {
					t.Errorf("%v: %d has the count %d and the tag %d", c, r, count.Of(k.g, r), k.g.SeeWord(r-1, 0))
				}
			}
			if link.Suspect(k.g) || ring.Len(k.g) != 0 {
				t.Errorf("%v: a suspicion, or somebody is in the ring", c)
			}
		}
	}
}

// P15.1: an object in a block where there was one ahead has nothing of that one.
func TestBornAgain(t *testing.T) {
	k := open(t, small)
	for parity := range 4 {
		r := k.born(t, 5, 20)
		for range parity {
			k.hold(t, r)
		}
		for i := range 5 {
			k.puts(t, r, i, r)
			k.puts(t, r, i, 0)
		}
		for k.let(t, r) {
		}
		for grave.Step(k.g) {
		}
		tint.Turn(k.g)
		k.read()
	}
}

// P15.1: a size that no object has, and sizes for which there is no room: the error of the layer that makes objects, and nothing is done.
func TestBornErrors(t *testing.T) {
	for _, c := range confs {
		k := open(t, c)
		largest := (c.W - 8) * (c.W - 1)
		for _, n := range append(far, 0, 1, largest-1, largest, largest+1) {
			for _, m := range append(far, 0, 1, largest-1, largest, largest+1) {
				if n > largest || n < 0 || m > largest || m < 0 || n+m > largest {
					k.refused(t, n, m, api.ErrSize)
				}
			}
		}
		for range 2 {
			k.refused(t, c.N*(c.W-1), 0, api.ErrFull, api.ErrSize)
			k.some(t)
		}
		for len(k.pool) > 0 {
			k.refused(t, (len(k.pool)-1)*(c.W-1)+1, 0, api.ErrFull, api.ErrSize, api.OK)
			k.bornOr(t, 1, 1)
		}
		k.refused(t, 0, 0, api.ErrFull)
	}
}

// refused has no object born, and tells where the error is none of those.
func (k *kept) refused(t *testing.T, nptr, ndata int, errs ...api.Errno) {
	t.Helper()
	if _, err := k.bornOr(t, nptr, ndata); !slices.Contains(errs, err) {
		t.Errorf("%v: Born(%d, %d): %d", k.c, nptr, ndata, err)
	}
}

// P15.1: of many that are asked for at once: just as many blocks as are clean may be taken, and not one more.
func TestBornLast(t *testing.T) {
	for clean := 1; clean < small.N; clean++ {
		k := open(t, small)
		for len(k.pool) > clean {
			k.born(t, 0, 0)
		}
		k.refused(t, clean*15, 0, api.ErrFull)
		k.refused(t, 0, clean*15, api.ErrFull)
		if clean == 1 {
			k.born(t, 4, 4)
		} else {
			k.born(t, (clean-1)*15-1, 1)
		}
		if len(k.pool) != 0 {
			t.Errorf("%d blocks more", len(k.pool))
		}
	}
}

// P15.2: a hold more and a hold less, of objects of each kind; who has no hold any more is buried, and isn't held or let again.
func TestHoldAndLet(t *testing.T) {
	for _, c := range confs {
		k := open(t, c)
		l := k.some(t)
		for i, r := range l {
			for range i {
				k.hold(t, r)
			}
			k.named(t)
		}
		for i, r := range l {
			for n := i; n >= 0; n-- {
				if !k.let(t, r) || count.Of(k.g, r) != n || tint.Dead(k.g, r) != (n == 0) {
					t.Errorf("%v: %d is let: its count is %d, not %d; is it dead: %v", c, r, count.Of(k.g, r), n, tint.Dead(k.g, r))
				}
			}
			if k.let(t, r) || k.hold(t, r) {
				t.Errorf("%v: %d is held or let, though it is dead", c, r)
			}
			k.named(t)
		}
		if !slices.Equal(grave.List(k.g), l) {
			t.Errorf("%v: the grave is %v, not %v", c, grave.List(k.g), l)
		}
	}
}

// P15.2: an object of any count is held and let, at its edges too; a count of 0 is left, without a suspicion.
func TestCounts(t *testing.T) {
	for _, n := range []int{0, 1, 2, 3, 255, 256, 65535, 65536, 1<<31 - 1, 1 << 31, most - 1} {
		k := open(t, small)
		r := k.born(t, 1, 20)
		k.set(r, 3, n)
		if k.let(t, r) != (n > 0) || link.Suspect(k.g) != (n > 0) {
			t.Errorf("the count %d: let: %v, a suspicion: %v", n, n == 0, link.Suspect(k.g))
		}
		if k.hold(t, r) != (n != 1) {
			t.Errorf("the count %d: held again: %v", n, n == 1)
		}
	}
}

// P15.2, P15.3: a count that a word can say no more of stays, and nothing is done; a name less it has.
func TestGreatestCount(t *testing.T) {
	k := open(t, small)
	k.setReg(11, api.Flooding)
	r, x := k.born(t, 2, 0), k.born(t, 0, 0)
	k.puts(t, r, 1, x)
	k.set(x, 3, most)
	k.setMark(x, color, 1)
	k.did(t, "Hold", false, 64, func() bool { return link.Hold(k.g, x) })
	for i := range 2 {
		k.did(t, "Put", false, 192, func() bool { return link.Put(k.g, r, i, x) == api.OK })
	}
	k.let(t, x)
	k.hold(t, x)
}

// P15.2: at all marks, in each phase, at either parity, in the ring or out of it, who is held is touched, and who is let isn't.
func TestHoldTouches(t *testing.T) {
	touched := 0
	k := open(t, small)
	other, r := k.born(t, 0, 0), k.born(t, 1, 20)
	start := k.g.Words()
	for n := range 1 << 8 {
		for state := range 3 {
			k.g.Load(start)
			k.read()
			k.state(t, n, state, r, other)
			stood := ring.Has(k.g, r-1)
			k.hold(t, r)
			if ring.Has(k.g, r-1) && !stood {
				touched++
			}
			k.g.Load(start)
			k.read()
			k.state(t, n, state, r, other)
			k.let(t, r)
		}
	}
	if touched == 0 {
		t.Error("nobody is touched")
	}
}

// state puts the parity, the phase, the marks of r, and whether it is in the ring, alone or with another one, by numbers, and its count to one or two.
func (k *kept) state(t *testing.T, n, state, r, other int) {
	t.Helper()
	k.setReg(10, n%2)
	k.setReg(11, n/2%4)
	for i, bit := range []int{color, counted, shade, dead} {
		k.setMark(r, bit, n>>(3+i)%2)
	}
	k.set(r, 3, 1+n>>7)
	k.set(r, 4, 5)
	switch {
	case state == 1 && k.alive(r):
		k.stand(t, r, other)
	case state == 2:
		k.stand(t, other)
		k.setReg(14, r)
	}
}

// P15.2, P15.3: what is no object's reference: that of a leaf, of a clean block, of one that was taken alone, of one that was ended, of none. Nothing is done.
func TestNone(t *testing.T) {
	for _, c := range confs[1:] {
		k := open(t, c)
		pool.Take(k.g)
		k.read()
		many, ended, one := k.born(t, 3, 2*c.W), k.born(t, 2, 2), k.born(t, 1, 1)
		k.let(t, ended)
		for grave.Step(k.g) {
		}
		k.read()
		k.setReg(16, 0)
		refs := append([]int{0, -1, -2, c.N + 1, c.N + 2}, far...)
		for r := range c.N {
			refs = append(refs, r+1)
		}
		for _, r := range refs {
			if r == many || r == one {
				continue
			}
			_, err := k.got(t, r, 0)
			if k.hold(t, r) || k.let(t, r) || err != api.ErrRef {
				t.Errorf("%v: %d is held or let, or Get: %d", c, r, err)
			}
			for _, x := range []int{0, one, r} {
				if err := k.puts(t, r, 0, x); err != api.ErrRef {
					t.Errorf("%v: Put of %d: %d", c, r, err)
				}
			}
			if r == 0 {
				continue
			}
			if err := k.puts(t, many, 0, r); err != api.ErrArg {
				t.Errorf("%v: %d is put: %d", c, r, err)
			}
		}
		if link.Suspect(k.g) {
			t.Errorf("%v: a suspicion", c)
		}
	}
}

// P15.2, P15.3: who is dead isn't held, let, put or put into, be it in the grave, partly drained or killed otherwise, whatever its count; its fields are still got.
func TestDead(t *testing.T) {
	for steps := range 12 {
		for n := range 3 {
			k := open(t, small)
			a, b, killed, x := k.born(t, 2, 0), k.born(t, 2, 20), k.born(t, 2, 2), k.born(t, 2, 2)
			for _, r := range []int{a, b, killed} {
				k.puts(t, r, 0, x)
				k.puts(t, r, 1, r)
			}
			k.puts(t, x, 0, x)
			for _, r := range []int{b, a} {
				k.let(t, r)
				k.puts(t, r, 1, 0)
			}
			tint.Kill(k.g, killed)
			for range steps {
				grave.Step(k.g)
			}
			k.read()
			k.setReg(16, 0)
			for _, r := range []int{a, b, killed} {
				if !k.is(r) {
					continue
				}
				k.set(r, 3, n)
				if k.hold(t, r) || k.let(t, r) || k.puts(t, r, 0, 0) != api.ErrRef || k.puts(t, r, 9, x) != api.ErrRef || k.puts(t, r, 0, r) != api.ErrRef || k.puts(t, x, 0, r) != api.ErrArg {
					t.Errorf("%d is dead, and something was done", r)
				}
				k.got(t, r, 0)
				k.got(t, r, 1)
			}
			if link.Suspect(k.g) {
				t.Error("a suspicion")
			}
		}
	}
}

// P15.3: each field of objects of each kind is put and got; a field that there isn't tells so, and the words aren't fields.
func TestPutAndGet(t *testing.T) {
	for _, c := range confs {
		k := open(t, c)
		l := k.some(t)
		for j, r := range l {
			nptr, _, _ := obj.Lens(k.g, r)
			for i := range nptr {
				if i > 40 && i%(c.W-1) > 1 && i < nptr-2 {
					continue
				}
				for n := range 2 {
					x := l[(i+j+n)%len(l)]
					k.puts(t, r, i, x)
					if y, err := k.got(t, r, i); y != x || err != api.OK {
						t.Errorf("%v: the field %d of %d is %d, %d, not %d", c, i, r, y, err, x)
					}
				}
			}
			for _, i := range append([]int{nptr, nptr + 1, nptr + c.W, -2}, far...) {
				for _, x := range append([]int{0, r, c.N + 1}, far...) {
					if err := k.puts(t, r, i, x); err != api.ErrIndex {
						t.Errorf("%v: Put(%d, %d, %d): %d", c, r, i, x, err)
					}
				}
				if _, err := k.got(t, r, i); err != api.ErrIndex {
					t.Errorf("%v: Get(%d, %d): %d", c, r, i, err)
				}
			}
			k.named(t)
		}
	}
}

// P15.3: of several errors the one that is named first is told, and nothing is done.
func TestPutErrors(t *testing.T) {
	k := open(t, small)
	r, gone := k.born(t, 2, 20), k.born(t, 1, 0)
	k.puts(t, r, 0, r)
	k.let(t, gone)
	k.setReg(16, 0)
	for _, m := range []struct {
		r, i, x int
		err     api.Errno
	}{
		{0, 5, gone, api.ErrRef}, {gone, 5, gone, api.ErrRef}, {gone, 0, r, api.ErrRef}, {2, 0, r, api.ErrRef}, {gone, 0, 0, api.ErrRef},
		{r, 2, gone, api.ErrIndex}, {r, -1, -1, api.ErrIndex}, {r, 2, 0, api.ErrIndex}, {r, 2, r, api.ErrIndex},
		{r, 0, gone, api.ErrArg}, {r, 0, -1, api.ErrArg}, {r, 0, 2, api.ErrArg}, {r, 1, small.N, api.ErrArg}, {r, 1, small.N + 1, api.ErrArg}, {r, 1, most, api.ErrArg},
	} {
		if err := k.puts(t, m.r, m.i, m.x); err != m.err {
			t.Errorf("Put(%d, %d, %d): %d, not %d", m.r, m.i, m.x, err, m.err)
		}
	}
	if link.Suspect(k.g) || count.Of(k.g, r) != 2 {
		t.Errorf("a suspicion, or the count is %d", count.Of(k.g, r))
	}
	obj.Shed(k.g, r, 0)
	k.read()
	if err := k.puts(t, r, 0, r); err != api.ErrIndex {
		t.Errorf("the leaf is shed: %d", err)
	}
}

// P15.3: whatever the field held, of whatever count, and whatever is put: all words, at all marks of both, in each phase and at either parity.
func TestPutAnything(t *testing.T) {
	for _, sizes := range [][2]int{{2, 0}, {10, 15}} {
		k := open(t, some)
		r, x, y, ended, leafy := k.born(t, sizes[0], sizes[1]), k.born(t, 1, 1), k.born(t, 3, 20), k.born(t, 1, 1), k.born(t, 0, 20)
		k.let(t, ended)
		for grave.Step(k.g) {
		}
		k.read()
		leaf := k.word(leafy-1, 8)
		k.set(leaf, 3, 7)
		k.setReg(16, 0)
		start := k.g.Words()
		for n := range 1 << 9 {
			for _, old := range []int{0, r, x, y, ended, leaf, some.N, some.N + 1, most} {
				for _, put := range []int{0, r, x, y} {
					k.g.Load(start)
					k.read()
					k.setField(r, sizes[0]-1, old)
					k.setReg(10, n%2)
					k.setReg(11, n/2%4)
					for i, at := range []int{r, x, y} {
						k.setMark(at, color, n>>(3+i)%2)
					}
					k.setMark(y, dead, n>>6%2)
					k.set(y, 3, n>>7)
					k.set(x, 3, 1)
					k.puts(t, r, sizes[0]-1, put)
				}
			}
		}
	}
}

// P15.3: who loses its last name by a Put is buried, also the object itself whose field it is, and stands in the ring no more.
func TestPutBuries(t *testing.T) {
	for phase := range 4 {
		for _, sizes := range [][2]int{{1, 0}, {18, 5}} {
			k := open(t, some)
			r, x := k.born(t, sizes[0], sizes[1]), k.born(t, sizes[0], sizes[1])
			k.setReg(10, 1)
			k.setReg(11, phase)
			for _, at := range []int{r, x} {
				k.setReg(11, api.Idle)
				k.puts(t, r, sizes[0]-1, at)
				k.setReg(11, phase)
				k.let(t, at)
				k.setReg(14, at)
				if tint.Dead(k.g, at) {
					t.Fatalf("%d is buried too early", at)
				}
				k.hold(t, r)
				k.puts(t, r, sizes[0]-1, 0)
				if tint.Dead(k.g, at) != (at == x) || k.g.SeeReg(14) == x {
					t.Errorf("phase %d: is %d dead: %v", phase, at, tint.Dead(k.g, at))
				}
				k.named(t)
			}
			k.puts(t, r, 0, r)
			for k.holds[r] > 0 {
				k.let(t, r)
			}
			k.puts(t, r, 0, 0)
			if !tint.Dead(k.g, r) || ring.Len(k.g) != 0 || !slices.Equal(grave.List(k.g), []int{x, r}) {
				t.Errorf("phase %d: the grave is %v, the ring %v", phase, grave.List(k.g), ring.List(k.g))
			}
			k.named(t)
		}
	}
}

// P15.3: the old and the new name are the same: the count stays, also where it is the last name; it is touched, and a suspicion.
func TestPutSame(t *testing.T) {
	for phase := range 4 {
		k := open(t, small)
		r, x := k.born(t, 2, 15), k.born(t, 1, 1)
		k.puts(t, r, 1, x)
		k.puts(t, r, 0, r)
		k.let(t, x)
		k.setReg(10, 1)
		k.setReg(11, phase)
		k.setReg(16, 0)
		for _, m := range [][2]int{{1, x}, {0, r}} {
			k.puts(t, r, m[0], m[1])
			if tint.Dead(k.g, m[1]) || ring.Has(k.g, m[1]-1) != (phase != api.Idle) || !link.Suspect(k.g) {
				t.Errorf("phase %d: is %d dead: %v, in the ring: %v, a suspicion: %v", phase, m[1], tint.Dead(k.g, m[1]), ring.Has(k.g, m[1]-1), link.Suspect(k.g))
			}
			k.setReg(16, 0)
		}
		k.named(t)
	}
}

// P15.3: what is put ahead, and what was there behind it, come into the ring in that order.
func TestPutOrder(t *testing.T) {
	k := open(t, small)
	r, x, y := k.born(t, 1, 0), k.born(t, 0, 0), k.born(t, 0, 0)
	k.puts(t, r, 0, y)
	k.setReg(10, 1)
	k.setReg(11, api.Counting)
	k.puts(t, r, 0, x)
	if l := ring.List(k.g); !slices.Equal(l, []int{x - 1, y - 1}) {
		t.Errorf("the ring is %v", l)
	}
}

// P15.3: a field that held nothing, or what isn't an object any more, or is none named: no suspicion by it.
func TestNoSuspicion(t *testing.T) {
	k := open(t, small)
	r, x, ended := k.born(t, 1, 0), k.born(t, 0, 0), k.born(t, 0, 0)
	k.let(t, ended)
	for grave.Step(k.g) {
	}
	k.read()
	k.set(x, 3, 0)
	for _, old := range []int{0, ended, x, small.N, most} {
		for _, put := range []int{0, r} {
			k.setField(r, 0, old)
			k.setReg(16, 0)
			k.puts(t, r, 0, put)
			if link.Suspect(k.g) {
				t.Errorf("%d was there: a suspicion", old)
			}
		}
	}
}

// P15.4: the suspicion is the register 16, and is there where that is 1.
func TestSuspect(t *testing.T) {
	k := open(t, small)
	for _, v := range []int{0, 1, 2, 3, 1 << 31, most, 1} {
		k.setReg(16, v)
		if link.Suspect(k.g) != (v == 1) {
			t.Errorf("the register is %d: %v", v, v != 1)
		}
	}
	r := k.born(t, 1, 0)
	for _, v := range []int{0, 1, 5} {
		k.setReg(16, v)
		k.hold(t, r)
		k.hold(t, r)
		k.puts(t, r, 0, r)
		k.let(t, r)
		if !link.Suspect(k.g) {
			t.Errorf("the register was %d: no suspicion", v)
		}
	}
}

// P15.4: of a nil ground there is nothing.
func TestNilGround(t *testing.T) {
	for _, n := range append([]int{0, 1, 2}, far...) {
		r, err := link.Born(nil, n, 1)
		x, getErr := link.Get(nil, n, 0)
		if r != 0 || err != api.ErrConf || x != 0 || getErr != api.ErrRef || link.Put(nil, n, 0, 1) != api.ErrRef || link.Hold(nil, n) || link.Let(nil, n) {
			t.Errorf("%d: %d, %d; %d, %d", n, r, err, x, getErr)
		}
	}
	if link.Suspect(nil) {
		t.Error("a suspicion")
	}
}
