package ideal_test

import (
	"testing"

	"quitrent/api"
)

// changes are operations that change something, behind begun.
var changes = []struct {
	name string
	l    []api.Op
}{
	{"a slot dropped", []api.Op{drops(0)}},
	{"a slot set", []api.Op{copies(0, 1), copies(3, 1)}},
	{"a slot set to what a field holds", []api.Op{loads(1, 0, 1)}},
	{"a field that held nothing", []api.Op{stores(0, 0, 1)}},
	{"a field that held something", []api.Op{stores(0, 1, 3)}},
	{"a field of what can't be reached but by a field", []api.Op{loads(3, 0, 1), stores(3, 0, 0), drops(3)}},
	{"a word", []api.Op{writes(0, 1, 99)}},
	{"the last word of an object with leaves", []api.Op{writes(1, 11, most)}},
	{"an object made", []api.Op{allocates(3, 2, 2), writes(3, 0, 4), stores(3, 0, 0)}},
	{"several objects made", []api.Op{allocates(3, 1, 0), allocates(3, 1, 0), allocates(2, 1, 0), stores(2, 0, 3)}},
	{"nothing", []api.Op{ticks(), lens(0), reads(1, 11), sames(0, 1)}},
}

// begun answers an ideal heap with objects in slots, in fields, and one that can't be reached.
func begun(t *testing.T) *kept {
	t.Helper()
	k := keep(t, small)
	k.all(t,
		allocates(0, 2, 2), allocates(1, 0, 12), allocates(2, 1, 1), stores(2, 0, 2), stores(0, 1, 2), writes(2, 0, 21), drops(2),
		allocates(3, 1, 1), stores(3, 0, 0), drops(3), writes(0, 0, 5), writes(0, 1, 6), writes(1, 11, 7),
	)
	return k
}

// P23.2: a copy is as what it was copied of, and each of both changed, in slots, fields, words and objects, goes on apart from the other.
func TestCopy(t *testing.T) {
	for _, x := range changes {
		for _, y := range changes {
			k := begun(t)
			n := k.copied()
			n.alike(t)
			n.all(t, x.l...)
			k.alike(t)
			k.all(t, y.l...)
			n.alike(t)
			if t.Failed() {
				t.Fatalf("%s in the copy, %s in what was copied", x.name, y.name)
			}
		}
	}
}

// P23.2: a copy tells the errors that what was copied tells: its width and its slots are the same, of each configuration.
func TestCopyTellsTheSame(t *testing.T) {
	for _, c := range confs {
		k := keep(t, c)
		for range 3 {
			k = k.copied()
			k.alike(t)
		}
		if k.m.Slots() != c.R || k.m.Objects() != 0 {
			t.Errorf("%v: %d slots, %d objects", c, k.m.Slots(), k.m.Objects())
		}
		k.all(t, allocates(0, 1, 1), stores(0, 0, 0))
		if c.R < 3 {
			continue
		}
		k.all(t, allocates(1, 0, 0))
		k = k.copied()
		for _, x := range wrongOnes(c) {
			if x.o.Kind == api.OpAlloc || x.want.Err == api.ErrSlot {
				k.fails(t, x.o, true, x.want.Err)
			}
		}
		k.fails(t, allocates(0, 9, 9), true, api.ErrFull)
		k.all(t, allocates(c.R-1, c.W-8, 1))
	}
}

// P23.2: in long rows of operations copies of copies go on apart from each other, and tell what they have to.
func TestCopiesGoOn(t *testing.T) {
	for i, c := range confs {
		l, next := []*kept{keep(t, c)}, chance(uint32(i+7))
		for turn := range 600 {
			k := l[next(len(l))]
			k.does(t, anyOp(next, c), next(6) == 0)
			if turn%40 != 20 {
				continue
			}
			if len(l) < 6 {
				l = append(l, k.copied())
			}
			for _, k := range l {
				k.alike(t)
			}
		}
		apart := 0
		for _, k := range l {
			k.alike(t)
			if k.m.Objects() != l[0].m.Objects() || k.m.Live() != l[0].m.Live() {
				apart++
			}
		}
		if apart < 3 {
			t.Errorf("%v: %d went on apart: that tells too little", c, apart)
		}
	}
}
