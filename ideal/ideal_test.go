package ideal_test

import (
	"math"
	"slices"
	"testing"

	"quitrent/api"
	"quitrent/ideal"
)

// The chapter's example: one object, which names itself, but is named by none that can be reached.
func TestExample(t *testing.T) {
	m := open(t, api.Conf{N: 4, W: 16, R: 2, K: 1})
	for _, o := range []api.Op{allocates(0, 1, 0), stores(0, 0, 0)} {
		if a := m.Do(o, false); a != (api.Answer{}) {
			t.Fatal(o, a)
		}
	}
	if m.Names(1) != 2 || m.Live() != 1 || !slices.Equal(m.Reach(), []int{1}) {
		t.Error("ahead of the Drop:", m.Names(1), m.Live(), m.Reach())
	}
	if a := m.Do(drops(0), false); a != (api.Answer{}) {
		t.Fatal(a)
	}
	if m.Objects() != 1 || m.Live() != 0 || m.Names(1) != 0 || len(m.Reach()) != 0 || m.Slot(0) != 0 {
		t.Error("behind the Drop:", m.Objects(), m.Live(), m.Names(1), m.Reach(), m.Slot(0))
	}
	if o, ok := m.See(1); !ok || !slices.Equal(o.Ptrs, []int{1}) || len(o.Data) != 0 {
		t.Error("it doesn't name itself:", o, ok)
	}
}

// P23.1: a new ideal heap of each configuration that may be: no objects, and R slots that hold nothing.
func TestNew(t *testing.T) {
	may := append([]api.Conf{
		{N: 1, W: api.LeastW, R: 1, K: 1}, {N: api.MaxWords / 16, W: 16, R: 1, K: 1}, {N: 1, W: 16, R: api.MaxR, K: 1},
		{N: 1, W: 16, R: 1, K: api.MaxK}, {N: api.MaxWords / api.MaxW, W: api.MaxW, R: api.MaxR, K: api.MaxK}, {N: 11, W: 17, R: 3, K: 5},
	}, confs...)
	for _, c := range may {
		k := keep(t, c)
		k.alike(t)
		if k.m.Slots() != c.R || k.m.Objects() != 0 || k.m.Live() != 0 || len(k.m.Reach()) != 0 {
			t.Errorf("%v: %d slots, %d objects, %d blocks, %v", c, k.m.Slots(), k.m.Objects(), k.m.Live(), k.m.Reach())
		}
	}
}

// P23.1: of a configuration that may not be ErrConf is told, and there is no ideal heap.
func TestNewWrong(t *testing.T) {
	wrong := []api.Conf{
		{}, {N: 0, W: 16, R: 1, K: 1}, {N: 1, W: 0, R: 1, K: 1}, {N: 1, W: 16, R: 0, K: 1}, {N: 1, W: 16, R: 1, K: 0},
		{N: -1, W: 16, R: 1, K: 1}, {N: 1, W: -16, R: 1, K: 1}, {N: 1, W: 16, R: -1, K: 1}, {N: 1, W: 16, R: 1, K: -1}, {N: -1, W: -16, R: -1, K: -1},
		{N: 1, W: 15, R: 1, K: 1}, {N: 1, W: 257, R: 1, K: 1}, {N: 1<<20 + 1, W: 16, R: 1, K: 1}, {N: 1, W: 16, R: 4097, K: 1}, {N: 1, W: 16, R: 1, K: 65537},
		{N: 1 << 18, W: 17, R: 1, K: 1}, {N: 16385, W: 256, R: 1, K: 1}, {N: 1<<18 + 1, W: 16, R: 1, K: 1},
	}
	for _, n := range far {
		wrong = append(wrong, api.Conf{N: n, W: 17, R: 1, K: 1}, api.Conf{N: 1, W: n, R: 1, K: 1}, api.Conf{N: 1, W: 16, R: n, K: 1}, api.Conf{N: 1, W: 16, R: 1, K: n})
	}
	for _, c := range wrong {
		if m, err := ideal.New(c); err != api.ErrConf || m != nil {
			t.Errorf("%v: %d, %v", c, err, m)
		}
	}
}

// P23.2: what Slot answers of slots that hold something, and nothing, of the first and the last, and of what is none.
func TestSlot(t *testing.T) {
	for _, c := range append([]api.Conf{{N: 1, W: 16, R: api.MaxR, K: 1}}, confs...) {
		m, last := open(t, c), c.R-1
		m.Do(allocates(last, 1, 1), false)
		m.Do(allocates(last, 1, 1), false)
		if m.Slot(last) != 2 || last > 0 && m.Slot(0) != 0 {
			t.Errorf("%v: %d, %d", c, m.Slot(last), m.Slot(0))
		}
		for _, s := range append([]int{-1, -2, c.R, c.R + 1, 2 * c.R}, far...) {
			if n := m.Slot(s); n != 0 {
				t.Errorf("%v: there is no slot %d, but it holds %d", c, s, n)
			}
		}
		m.Do(drops(last), false)
		if m.Slot(last) != 0 || m.Slots() != c.R {
			t.Errorf("%v: %d, of %d slots", c, m.Slot(last), m.Slots())
		}
	}
}

// P23.2: See of each object that was made, whether it can be reached or not, and of what is none.
func TestSee(t *testing.T) {
	k := keep(t, small)
	for _, i := range append([]int{0, -1, 1, 2}, far...) {
		if o, ok := k.m.See(i); ok || o.Ptrs != nil || o.Data != nil {
			t.Errorf("of no objects: %d: %v, %t", i, o, ok)
		}
	}
	k.all(t, allocates(0, 2, 3), writes(0, 1, most), allocates(1, 0, 0), stores(0, 1, 1), allocates(2, 1, 9), writes(2, 8, 7))
	// The third one can't be reached any more.
	k.all(t, stores(2, 0, 0), drops(2))
	want := []api.Object{{Ptrs: []int{0, 2}, Data: []uint32{0, most, 0}}, {}, {Ptrs: []int{1}, Data: []uint32{0, 0, 0, 0, 0, 0, 0, 0, 7}}}
	for i, x := range want {
		if o, ok := k.m.See(i + 1); !ok || !slices.Equal(o.Ptrs, x.Ptrs) || !slices.Equal(o.Data, x.Data) {
			t.Errorf("%d: %v, %t, want %v", i+1, o, ok, x)
		}
	}
	for _, i := range append([]int{0, -1, -3, 4, 5}, far...) {
		if o, ok := k.m.See(i); ok || o.Ptrs != nil || o.Data != nil {
			t.Errorf("%d: %v, %t", i, o, ok)
		}
	}
}

// P23.2: Reach of none, of one, of all, of what is held by a slot and a field alike; the numbers rise, whatever way leads there.
func TestReach(t *testing.T) {
	k := keep(t, api.Conf{N: 9, W: 16, R: 5, K: 2})
	reaches := func(live int, want ...int) {
		t.Helper()
		if l := k.m.Reach(); !slices.Equal(l, want) || k.m.Live() != live {
			t.Errorf("%v, %d blocks, want %v, %d", l, k.m.Live(), want, live)
		}
	}
	reaches(0)
	for s := range 5 {
		k.all(t, allocates(4-s, 3, 0))
	}
	// The slots hold 5, 4, 3, 2, 1.
	reaches(5, 1, 2, 3, 4, 5)
	k.all(t, stores(0, 0, 4), stores(0, 2, 2), stores(2, 1, 3), stores(4, 0, 0), drops(2), drops(3), drops(4))
	// The slot 0 holds 5, which names 1 and 3; 3 names 2, and 1 names 5; 4 is in the slot 1.
	reaches(5, 1, 2, 3, 4, 5)
	k.all(t, drops(1))
	reaches(4, 1, 2, 3, 5)
	k.all(t, loads(1, 0, 2), drops(0))
	reaches(2, 2, 3)
	k.all(t, loads(1, 1, 1))
	reaches(1, 2)
	k.all(t, drops(1))
	reaches(0)
	if k.m.Objects() != 5 {
		t.Errorf("%d objects", k.m.Objects())
	}
}

// P23.2: what only a long row of fields reaches is reached, and named once; behind the row's first one nothing is.
func TestLongRow(t *testing.T) {
	const long = 60000
	m := open(t, small)
	for i := range long {
		// Each names the one ahead of it, by its last field.
		for _, o := range []api.Op{allocates(1, i%3+1, 0), stores(1, i%3, 0), copies(0, 1)} {
			if a := m.Do(o, false); a.Err != api.OK {
				t.Fatal(o, a)
			}
		}
	}
	m.Do(drops(1), false)
	l := m.Reach()
	if len(l) != long || l[0] != 1 || l[long-1] != long || !slices.IsSorted(l) || m.Live() != long || m.Objects() != long {
		t.Fatalf("%d are reached, %d blocks, of %d", len(l), m.Live(), m.Objects())
	}
	for _, i := range []int{1, 2, long / 2, long - 1, long} {
		if n := m.Names(i); n != 1 {
			t.Errorf("%d names of %d", n, i)
		}
	}
	// The row ends in a ring.
	if m.Do(loads(2, 0, (long-1)%3), false).Err != api.OK || m.Do(stores(2, (long-2)%3, 0), false).Err != api.OK {
		t.Fatal("no ring")
	}
	if l := m.Reach(); !slices.Equal(l, []int{long - 1, long}) || m.Names(long) != 2 || m.Names(long-1) != 2 {
		t.Errorf("%d are reached, %d, %d names", len(l), m.Names(long), m.Names(long-1))
	}
	m.Do(drops(0), false)
	m.Do(drops(2), false)
	if len(m.Reach()) != 0 || m.Live() != 0 || m.Names(1) != 0 || m.Objects() != long {
		t.Error("behind the last Drop something is reached")
	}
}

// P23.2: objects that name themselves, each other in a ring, and all of them all, by many ways; each is reached once, and not when no slot holds one of them any more.
func TestRings(t *testing.T) {
	for ring := 1; ring <= 4; ring++ {
		for slot := range ring {
			k := keep(t, small)
			for s := range ring {
				k.all(t, allocates(s, 2, 0))
			}
			for s := range ring {
				k.all(t, stores(s, 1, (s+1)%ring))
			}
			for s := range ring {
				if n := k.m.Names(s + 1); n != 2 {
					t.Errorf("%d of a ring of %d: %d names", s+1, ring, n)
				}
			}
			for s := range ring {
				if s != slot {
					k.all(t, drops(s))
				}
			}
			if len(k.m.Reach()) != ring || k.m.Live() != ring || k.m.Names(slot+1) != 2 {
				t.Errorf("a ring of %d: %v, %d names", ring, k.m.Reach(), k.m.Names(slot+1))
			}
			k.all(t, drops(slot))
			if len(k.m.Reach()) != 0 || k.m.Live() != 0 || k.m.Objects() != ring {
				t.Errorf("a ring of %d that no slot holds: %v", ring, k.m.Reach())
			}
		}
	}
}

// P23.2: where all name all, by several fields each, an object counts once for Live, and each field for Names.
func TestManyWays(t *testing.T) {
	k := keep(t, small)
	for s := range 3 {
		k.all(t, allocates(s, 9, 0))
	}
	for s := range 3 {
		for i := range 9 {
			k.all(t, stores(s, i, i%3))
		}
	}
	k.all(t, copies(3, 1))
	for i, want := range []int{10, 11, 10} {
		if n := k.m.Names(i + 1); n != want {
			t.Errorf("%d names of %d, want %d", n, i+1, want)
		}
	}
	if k.m.Live() != 6 {
		t.Errorf("%d blocks", k.m.Live())
	}
	k.all(t, drops(0), drops(1), drops(2))
	if n := k.m.Names(2); n != 10 || k.m.Live() != 6 {
		t.Errorf("%d names, %d blocks", n, k.m.Live())
	}
	k.all(t, drops(3))
	if n := k.m.Names(2); n != 0 || k.m.Live() != 0 {
		t.Errorf("%d names, %d blocks", n, k.m.Live())
	}
}

// P23.2: Live has each object's blocks by the width: of one block, of several, of the greatest, each at its edge; one that many hold counts once.
func TestLive(t *testing.T) {
	for _, c := range confs {
		k := keep(t, c)
		leaves, per := c.W-8, c.W-1
		for _, x := range []struct{ nptr, ndata, want int }{
			{0, 0, 1}, {1, 0, 1}, {leaves, 0, 1}, {0, leaves, 1}, {1, leaves - 1, 1}, {1, leaves, 2}, {leaves + 1, 0, 2}, {0, leaves + 1, 2}, {per, 0, 2},
			{1, per - 1, 2}, {1, per, 3}, {per, per, 3}, {0, 2*per + 1, 4}, {leaves * per, 0, leaves + 1}, {0, leaves * per, leaves + 1}, {1, leaves*per - 1, leaves + 1},
		} {
			last := c.R - 1
			k.all(t, allocates(last, x.nptr, x.ndata))
			if n := k.m.Live(); n != x.want {
				t.Errorf("%v: of %d and %d fields: %d blocks, not %d", c, x.nptr, x.ndata, n, x.want)
			}
			if x.nptr > 0 {
				k.all(t, stores(last, x.nptr-1, last), copies(0, last), stores(0, 0, last))
				if n := k.m.Live(); n != x.want {
					t.Errorf("%v: held by many: %d blocks, not %d", c, n, x.want)
				}
			}
			k.all(t, drops(0), drops(last))
		}
	}
}

// P23.2: names of a slot's, of several slots' and fields', of one that only what can't be reached names, and of none.
func TestNames(t *testing.T) {
	k := keep(t, small)
	names := func(want ...int) {
		t.Helper()
		for i, n := range want {
			if got := k.m.Names(i + 1); got != n {
				t.Errorf("%d names of %d, want %d", got, i+1, n)
			}
		}
		for _, i := range append([]int{0, -1, -2, len(want) + 1, len(want) + 2}, far...) {
			if got := k.m.Names(i); got != 0 {
				t.Errorf("%d names of %d, which is none", got, i)
			}
		}
	}
	names()
	k.all(t, allocates(0, 3, 0))
	names(1)
	k.all(t, copies(1, 0), copies(3, 0))
	names(3)
	k.all(t, allocates(1, 2, 0), stores(0, 1, 1), stores(0, 2, 1))
	names(2, 3)
	// Once by what can't be reached any more.
	k.all(t, allocates(2, 5, 0), stores(2, 0, 1), stores(2, 4, 1), stores(2, 2, 0), stores(2, 3, 2))
	names(3, 5, 2)
	k.all(t, drops(2))
	names(2, 3, 0)
	k.all(t, drops(0), drops(3))
	// The second one is held by a slot; the first one, which names it, isn't.
	names(0, 1, 0)
	k.all(t, drops(1))
	names(0, 0, 0)
}

// P23.2: what See, Reach and Copy answer is memory of its own: nothing of the ideal heap is changed by writing into it.
func TestAnswersAreOnesOwn(t *testing.T) {
	k := keep(t, small)
	k.all(t, allocates(0, 2, 2), writes(0, 0, 5), stores(0, 0, 0), allocates(1, 1, 9), stores(0, 1, 1), writes(1, 8, 6))
	for i := 1; i <= 2; i++ {
		o, _ := k.m.See(i)
		spoil(o)
		// Nor is anything that is put behind the lists.
		_, _ = append(o.Ptrs, 9), append(o.Data, 9)
		k.alike(t)
		again, _ := k.m.See(i)
		other, _ := k.m.See(i)
		spoil(again)
		if slices.Contains(other.Ptrs, 77) || slices.Contains(other.Data, 77) {
			t.Error("two answers of See share a list")
		}
	}
	l, other := k.m.Reach(), k.m.Reach()
	clear(l)
	_ = append(l, 3)
	if !slices.Equal(other, []int{1, 2}) {
		t.Error("two answers of Reach share a list")
	}
	k.alike(t)
	seen, _ := k.m.See(1)
	k.all(t, writes(0, 0, 8), writes(0, 1, 9), stores(0, 0, 3))
	if !slices.Equal(seen.Ptrs, []int{1, 2}) || !slices.Equal(seen.Data, []uint32{5, 0}) {
		t.Errorf("what See answered was changed behind it: %v", seen)
	}
	n := k.m.Copy()
	for i := range 4 {
		n.Do(drops(i), false)
		n.Do(allocates(i, 0, 0), false)
	}
	k.alike(t)
}

// spoil sets all that an object has to something else.
func spoil(o api.Object) {
	for i := range o.Ptrs {
		o.Ptrs[i] = 77
	}
	for i := range o.Data {
		o.Data[i] = 77
	}
}

// P23.2: a nil one tells ErrConf of Do, whatever the operation is, and else nothing.
func TestNil(t *testing.T) {
	var m *ideal.Ideal
	for _, full := range []bool{false, true} {
		for kind := -1; kind <= 12; kind++ {
			for _, n := range append([]int{0, 1, -1}, far...) {
				if a := m.Do(api.Op{Kind: kind, A: n, B: n, C: n, V: 3}, full); a != fail(api.ErrConf) {
					t.Errorf("kind %d, %d: %v", kind, n, a)
				}
			}
		}
	}
	for _, i := range append([]int{0, 1, -1}, far...) {
		if o, ok := m.See(i); ok || o.Ptrs != nil || o.Data != nil {
			t.Errorf("See of %d: %v, %t", i, o, ok)
		}
		if m.Slot(i) != 0 || m.Names(i) != 0 {
			t.Errorf("%d: %d, %d", i, m.Slot(i), m.Names(i))
		}
	}
	if m.Slots() != 0 || m.Objects() != 0 || len(m.Reach()) != 0 || m.Live() != 0 || m.Copy() != nil {
		t.Errorf("%d, %d, %v, %d, %v", m.Slots(), m.Objects(), m.Reach(), m.Live(), m.Copy())
	}
}

// P23.2: what is asked changes nothing, and answers the same each time.
func TestAskedAgain(t *testing.T) {
	next := chance(5)
	k := keep(t, small)
	for range 200 {
		k.does(t, anyOp(next, small), false)
	}
	for range 3 {
		k.alike(t)
		for _, i := range []int{-1, 0, 1, math.MaxInt} {
			k.m.See(i)
			k.m.Slot(i)
			k.m.Names(i)
		}
		k.m.Copy()
	}
}
