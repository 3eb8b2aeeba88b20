package census_test

import (
	"slices"
	"testing"

	"quitrent/api"
	"quitrent/census"
	"quitrent/ideal"
	"quitrent/op"
)

// apart answers a heap that did some operations, and an ideal one that did others.
func apart(t *testing.T, c api.Conf, here, there []api.Op) *both {
	t.Helper()
	k := open(t, c)
	for _, o := range here {
		if a := op.Do(k.h, o); a.Err != api.OK {
			t.Fatalf("here: %v: %d", o, a.Err)
		}
	}
	for _, o := range there {
		if a := k.m.Do(o, false); a.Err != api.OK {
			t.Fatalf("there: %v: %d", o, a.Err)
		}
	}
	return k
}

// joined answers lists of operations as one.
func joined(l ...[]api.Op) []api.Op {
	return slices.Concat(l...)
}

// two, pair and ring are what several cases below begin with: two objects of one look in the slots 0 and 1, the same object in both, and two that name each other in the slots 0 and 1.
var (
	two  = []api.Op{allocates(0, 1, 1), allocates(1, 1, 1)}
	pair = []api.Op{allocates(0, 1, 1), copies(1, 0)}
	ring = []api.Op{allocates(0, 1, 1), allocates(1, 1, 1), stores(0, 0, 1), stores(1, 0, 0)}
)

// P24.3: what is alike, and what is not, but for one thing; each is held against the other both ways.
func TestAlike(t *testing.T) {
	wide := []api.Op{allocates(0, 3, 13)}
	for _, x := range []struct {
		name        string
		here, there []api.Op
		want        bool
	}{
		{"nothing", nil, nil, true},
		{"one and none", two[:1], nil, false},
		{"one", two[:1], two[:1], true},
		{"one in another slot", []api.Op{allocates(0, 1, 1)}, []api.Op{allocates(1, 1, 1)}, false},
		{"one in the last slot", []api.Op{allocates(3, 1, 1)}, nil, false},
		{"one in one more slot", []api.Op{allocates(0, 1, 1)}, pair, false},
		{"two", two, two, true},
		{"two, made the other way round", two, []api.Op{allocates(1, 1, 1), allocates(0, 1, 1)}, true},
		{"two, with one made between", two, []api.Op{allocates(0, 1, 1), allocates(1, 9, 9), allocates(1, 1, 1)}, true},
		{"two, and one twice", two, pair, false},
		{"one pair and another one", []api.Op{allocates(0, 0, 0), copies(1, 0), allocates(2, 0, 0), copies(3, 2)}, []api.Op{allocates(0, 0, 0), copies(2, 0), allocates(1, 0, 0), copies(3, 1)}, false},
		{"two, and both in the other's slot", []api.Op{allocates(0, 1, 0), allocates(1, 0, 1)}, []api.Op{allocates(0, 0, 1), allocates(1, 1, 0)}, false},
		{"a word", joined(two, []api.Op{writes(0, 0, 1)}), two, false},
		{"a word of the other one", joined(two, []api.Op{writes(1, 0, most)}), two, false},
		{"words, the other way round", joined(two, []api.Op{writes(0, 0, 1)}), joined(two, []api.Op{writes(1, 0, 1)}), false},
		{"the same words", joined(two, []api.Op{writes(1, 0, 7)}), joined(two, []api.Op{writes(1, 0, 7)}), true},
		{"leaves", wide, wide, true},
		{"a word in the first leaf", joined(wide, []api.Op{writes(0, 0, 1)}), wide, false},
		{"a word in the last leaf", joined(wide, []api.Op{writes(0, 12, 1)}), wide, false},
		{"a field in a leaf", joined(wide, []api.Op{stores(0, 2, 0)}), wide, false},
		{"other fields of one", joined(wide, []api.Op{stores(0, 2, 0)}), joined(wide, []api.Op{stores(0, 1, 0)}), false},
		{"a pointer field more", []api.Op{allocates(0, 2, 1)}, []api.Op{allocates(0, 1, 1)}, false},
		{"a word more", []api.Op{allocates(0, 1, 2)}, []api.Op{allocates(0, 1, 1)}, false},
		{"a word for a pointer field", []api.Op{allocates(0, 1, 2)}, []api.Op{allocates(0, 2, 1)}, false},
		{"no field, and one", []api.Op{allocates(0, 0, 0)}, []api.Op{allocates(0, 1, 0)}, false},
		{"no word, and one", []api.Op{allocates(0, 0, 0)}, []api.Op{allocates(0, 0, 1)}, false},
		{"a field more in what a field holds", joined([]api.Op{allocates(1, 1, 0), allocates(0, 1, 0), stores(0, 0, 1), drops(1)}), joined([]api.Op{allocates(1, 0, 0), allocates(0, 1, 0), stores(0, 0, 1), drops(1)}), false},
		{"a word of what a field holds", joined([]api.Op{allocates(1, 0, 1), writes(1, 0, 3), allocates(0, 1, 0), stores(0, 0, 1), drops(1)}), joined([]api.Op{allocates(1, 0, 1), allocates(0, 1, 0), stores(0, 0, 1), drops(1)}), false},
		{"itself and nothing", joined(two, []api.Op{stores(1, 0, 1)}), two, false},
		{"itself and the other one", joined(two, []api.Op{stores(1, 0, 1)}), joined(two, []api.Op{stores(1, 0, 0)}), false},
		{"itself", joined(two, []api.Op{stores(1, 0, 1)}), joined(two, []api.Op{stores(1, 0, 1)}), true},
		{"a ring", ring, ring, true},
		{"a ring of which one is held", joined(ring, []api.Op{drops(1)}), joined(ring, []api.Op{drops(1)}), true},
		{"a ring of which either is held", joined(ring, []api.Op{drops(1)}), joined(ring, []api.Op{copies(0, 1), drops(1)}), true},
		{"a ring of two, and one of one", joined(ring, []api.Op{drops(1)}), []api.Op{allocates(0, 1, 1), stores(0, 0, 0)}, false},
		{"a ring of two, and of one, both held", ring, joined(pair, []api.Op{stores(0, 0, 0)}), false},
		{"a ring of two, and two of one", ring, joined(two, []api.Op{stores(0, 0, 0), stores(1, 0, 1)}), false},
		{"a ring of two, and a row into one", ring, joined(two, []api.Op{stores(0, 0, 1), stores(1, 0, 1)}), false},
		{"two fields to one, and to two", joined(two, []api.Op{allocates(2, 2, 0), stores(2, 0, 0), stores(2, 1, 0), drops(0), drops(1)}), joined(two, []api.Op{allocates(2, 2, 0), stores(2, 0, 0), stores(2, 1, 1), drops(0), drops(1)}), false},
		{"what a slot and a field hold, and two", joined(two, []api.Op{stores(0, 0, 1)}), joined(two, []api.Op{stores(0, 0, 1), allocates(1, 1, 1)}), false},
		{"lost ones here alone", joined(ring, []api.Op{drops(0), drops(1)}), nil, true},
		{"lost ones here, others there", joined(ring, []api.Op{drops(0), drops(1), allocates(2, 1, 0)}), []api.Op{allocates(2, 1, 0), stores(2, 0, 2), allocates(2, 1, 0)}, true},
		{"dead ones here alone", []api.Op{allocates(0, 1, 60), drops(0)}, nil, true},
		{"dead ones here, and one made", []api.Op{allocates(0, 1, 60), allocates(0, 1, 1)}, two[:1], true},
	} {
		k := apart(t, small, x.here, x.there)
		t.Log(x.name)
		alike(t, k.h.Ground(), k.m, x.want)
		k = apart(t, small, x.there, x.here)
		alike(t, k.h.Ground(), k.m, x.want)
	}
}

// P24.3: a ground and an ideal heap with other many slots are not alike, and other numbers of a configuration tell nothing.
func TestAlikeOfOtherConfigurations(t *testing.T) {
	k := open(t, small)
	for r := 1; r <= 9; r++ {
		m, _ := ideal.New(api.Conf{N: small.N, W: small.W, R: r, K: small.K})
		alike(t, k.h.Ground(), m, r == small.R)
	}
	for _, c := range []api.Conf{{N: 1, W: 16, R: 4, K: 2}, {N: 9, W: 256, R: 4, K: 2}, {N: 9, W: 16, R: 4, K: 77}, {N: 100, W: 20, R: 4, K: 1}} {
		k := open(t, small)
		k.m, _ = ideal.New(c)
		k.all(t, allocates(0, 1, 12), stores(0, 0, 0), allocates(3, 0, 3), writes(3, 2, 5))
		alike(t, k.h.Ground(), k.m, true)
		k.m.Do(writes(3, 2, 6), false)
		alike(t, k.h.Ground(), k.m, false)
	}
}

// P24.3: of any two that did much the same it is told just as their lists say, whose objects have the numbers of their first mention.
func TestAlikeOfAny(t *testing.T) {
	for i, c := range confs {
		told := map[bool]int{}
		for seed := range 60 {
			k, next := open(t, c), chance(uint32(100*i+seed))
			for range 60 {
				k.do(t, anyOp(next, c))
			}
			g := k.h.Ground()
			alike(t, g, k.m, true)
			words, m := g.Words(), k.m.Copy()
			for range 12 {
				// One or two operations that the ideal heap does alone.
				for range 1 + next(2) {
					m.Do(anyOp(next, c), next(4) == 0)
				}
				want := slices.Equal(drawnHere(g), drawnThere(m))
				alike(t, g, m, want)
				told[want]++
				m = k.m.Copy()
			}
			if !slices.Equal(words, g.Words()) {
				t.Fatalf("%v: %d: the words changed", c, seed)
			}
		}
		if told[true] < 50 || told[false] < 50 {
			t.Errorf("%v: %v: that tells too little", c, told)
		}
	}
}

// P24.3: a slot or a field that holds what is no object is neither nothing nor one of a pair.
func TestAlikeOfNoObject(t *testing.T) {
	for _, r := range []int{5, 9, 10, 1 << 20, most} {
		k := open(t, small).all(t, allocates(0, 1, 0))
		g := k.h.Ground()
		g.SetRoot(1, r)
		alike(t, g, k.m, false)
		k.m.Do(allocates(1, 0, 0), false)
		if census.Alike(g, k.m) {
			t.Errorf("%d is an object", r)
		}
	}
}
