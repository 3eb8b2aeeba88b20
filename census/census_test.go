package census_test

import (
	"slices"
	"testing"

	"quitrent/api"
	"quitrent/census"
	"quitrent/grave"
	"quitrent/ground"
	"quitrent/ideal"
	"quitrent/link"
	"quitrent/obj"
	"quitrent/pool"
)

// bare answers a new ground whose pool is opened.
func bare(t *testing.T, c api.Conf) *ground.Ground {
	t.Helper()
	g, err := ground.New(c)
	if err != api.OK || !pool.Open(g) {
		t.Fatalf("%v: %d", c, err)
	}
	return g
}

// born answers a new object with one hold, in a slot if there is one.
func born(t *testing.T, g *ground.Ground, nptr, ndata, slot int) int {
	t.Helper()
	r, err := link.Born(g, nptr, ndata)
	if err != api.OK {
		t.Fatalf("%v: %d, %d: %d", g.Conf(), nptr, ndata, err)
	}
	if slot >= 0 {
		g.SetRoot(slot, r)
	}
	return r
}

// put makes the pointer field i of r name x.
func put(t *testing.T, g *ground.Ground, r, i, x int) {
	t.Helper()
	if err := link.Put(g, r, i, x); err != api.OK {
		t.Fatalf("%d, %d, %d: %d", r, i, x, err)
	}
}

// let takes a hold of each of those away.
func let(t *testing.T, g *ground.Ground, refs ...int) {
	t.Helper()
	for _, r := range refs {
		if !link.Let(g, r) {
			t.Fatalf("%d can't be let", r)
		}
	}
}

// The chapter's example: one object, which names itself, in no slot, is lost; behind its epoch it is pending.
func TestExample(t *testing.T) {
	k := open(t, api.Conf{N: 3, W: 16, R: 2, K: 1}).all(t, allocates(0, 1, 0), stores(0, 0, 0), drops(0))
	g := k.h.Ground()
	if n, ok := census.State(g, 0); n != lost || !ok || census.Tally(g) != [5]int{2, 0, 0, 1, 0} {
		t.Error("in no slot:", n, ok, census.Tally(g))
	}
	if l := census.Items(g); !alikeItems(l, []census.Item{{Ref: 1, Blocks: 1, Count: 1, Object: api.Object{Ptrs: []int{1}}}}) || len(census.Reach(g)) != 0 {
		t.Error("in no slot:", l, census.Reach(g))
	}
	for range 100 {
		if n, _ := census.State(g, 0); n != lost {
			break
		}
		k.all(t, ticks())
	}
	if n, ok := census.State(g, 0); n != pending || !ok || census.Tally(g) != [5]int{2, 1, 0, 0, 0} {
		t.Error("behind its epoch:", n, ok, census.Tally(g))
	}
	if l := census.Items(g); !alikeItems(l, []census.Item{{Ref: 1, Blocks: 1, Dead: true, Object: api.Object{Ptrs: []int{0}}}}) || census.Names(g, 1) != 0 {
		t.Error("behind its epoch:", l, census.Names(g, 1))
	}
	for range 100 {
		k.all(t, ticks())
	}
	if census.Tally(g) != [5]int{3, 0, 0, 0, 0} || len(census.Items(g)) != 0 {
		t.Error("in the end:", census.Tally(g), census.Items(g))
	}
}

// P24.1: items of objects in slots, in fields, in neither, dead ones, with and without leaves: by rising references, each with all that it has to tell.
func TestItems(t *testing.T) {
	g := bare(t, api.Conf{N: 20, W: 16, R: 3, K: 1})
	check(t, g)
	first := born(t, g, 2, 1, 2)  // the block 0
	long := born(t, g, 1, 14, -1) // 1 to 2
	lone := born(t, g, 1, 0, -1)  // 3
	gone := born(t, g, 3, 20, -1) // 4 to 6
	last := born(t, g, 0, 0, 0)   // 7
	obj.SetData(g, first, 0, most)
	obj.SetData(g, long, 13, 77)
	obj.SetData(g, gone, 0, 5)
	obj.SetData(g, gone, 19, 6)
	put(t, g, first, 1, long)
	put(t, g, long, 0, first)
	put(t, g, lone, 0, last)
	put(t, g, gone, 2, last)
	let(t, g, long, gone)
	words := func(n int, at int, v uint32) []uint32 {
		l := make([]uint32, n)
		l[at] = v
		return l
	}
	data := words(20, 19, 6)
	data[0] = 5
	want := []census.Item{
		{Ref: 1, Blocks: 1, Count: 2, Live: true, Object: api.Object{Ptrs: []int{0, 2}, Data: []uint32{most}}},
		{Ref: 2, Blocks: 2, Count: 1, Live: true, Object: api.Object{Ptrs: []int{1}, Data: words(14, 13, 77)}},
		{Ref: 4, Blocks: 1, Count: 1, Object: api.Object{Ptrs: []int{8}}},
		{Ref: 5, Blocks: 3, Dead: true, Object: api.Object{Ptrs: []int{0, 0, 8}, Data: data}},
		{Ref: 8, Blocks: 1, Count: 3, Live: true},
	}
	if l := census.Items(g); !alikeItems(l, want) {
		t.Errorf("%v, want %v", l, want)
	}
	check(t, g)
	// The dead one sheds its last leaf, and is of as many blocks as it was: the fields in that leaf are 0.
	if !grave.Step(g) || pool.Len(g) != 13 {
		t.Fatal(pool.Len(g))
	}
	want[3].Object.Data = words(20, 0, 5)
	if l := census.Items(g); !alikeItems(l, want) {
		t.Errorf("a leaf shed: %v, want %v", l, want)
	}
	check(t, g)
	for n := 0; grave.Step(g); n++ {
		check(t, g)
	}
	want = slices.Delete(want, 3, 4)
	want[3].Count = 2
	if l := census.Items(g); !alikeItems(l, want) {
		t.Errorf("in the end: %v, want %v", l, want)
	}
}

// P24.1: objects that name themselves, and each other in rings, can be reached, and are named, from slots or not at all.
func TestRings(t *testing.T) {
	for _, held := range []bool{false, true} {
		g := bare(t, api.Conf{N: 12, W: 16, R: 2, K: 1})
		var refs []int
		for i := range 6 {
			refs = append(refs, born(t, g, 2, 10*(i%2), -1))
		}
		// The first one names itself twice; the others stand in a ring, and one of them names the first one.
		put(t, g, refs[0], 0, refs[0])
		put(t, g, refs[0], 1, refs[0])
		for i := 1; i < 6; i++ {
			put(t, g, refs[i], 0, refs[i%5+1])
		}
		put(t, g, refs[4], 1, refs[0])
		let(t, g, refs...)
		var want []int
		if held {
			link.Hold(g, refs[3])
			g.SetRoot(1, refs[3])
			want = refs
		}
		if l := census.Reach(g); !slices.Equal(l, want) {
			t.Errorf("held %t: %v, not %v", held, l, want)
		}
		for _, x := range census.Items(g) {
			names := 1
			if x.Ref == refs[0] {
				names = 3
			}
			if held && x.Ref == refs[3] {
				names = 2
			}
			if x.Live != held || x.Dead || x.Count != names || census.Names(g, x.Ref) != names {
				t.Errorf("held %t: %v, %d names, not %d", held, x, census.Names(g, x.Ref), names)
			}
		}
		check(t, g)
	}
}

// P24.1: the references of Reach rise, whatever way leads there, and none is there twice.
func TestReach(t *testing.T) {
	k := open(t, api.Conf{N: 9, W: 16, R: 5, K: 1})
	reaches := func(want ...int) {
		t.Helper()
		if l := census.Reach(k.h.Ground()); !slices.Equal(l, want) {
			t.Errorf("%v, want %v", l, want)
		}
	}
	reaches()
	for s := range 5 {
		k.all(t, allocates(4-s, 3, 0))
	}
	// The slots hold 5, 4, 3, 2, 1.
	reaches(1, 2, 3, 4, 5)
	k.all(t, stores(0, 0, 4), stores(0, 2, 2), stores(2, 1, 3), stores(4, 0, 0), drops(2), drops(3), drops(4))
	// The slot 0 holds 5, which names 1 and 3; 3 names 2, and 1 names 5; 4 is in the slot 1.
	reaches(1, 2, 3, 4, 5)
	k.all(t, copies(1, 0))
	reaches(1, 2, 3, 5)
	k.all(t, loads(1, 0, 2), drops(0))
	reaches(2, 3)
	k.all(t, loads(4, 1, 1), drops(1))
	reaches(2)
	k.all(t, drops(4))
	reaches()
}

// P24.1: what only a long row of fields reaches is reached; behind the row's first one nothing is.
func TestLongRow(t *testing.T) {
	const long = 20000
	k := open(t, api.Conf{N: long, W: 16, R: 2, K: 1})
	for i := range long {
		// Each names the one ahead of it, by its last field.
		for _, o := range []api.Op{allocates(1, i%3+1, 0), stores(1, i%3, 0), copies(0, 1)} {
			if a := k.do(t, o); a.Err != api.OK {
				t.Fatal(i, o, a)
			}
		}
	}
	k.do(t, drops(1))
	g := k.h.Ground()
	if n := len(census.Reach(g)); n != long || census.Tally(g) != [5]int{0, 0, long, 0, 0} || !census.Alike(g, k.m) {
		t.Error(n, census.Tally(g), census.Alike(g, k.m))
	}
	if l := census.Items(g); len(l) != long || l[0].Ref != 1 || l[long-1].Ref != long || !l[0].Live {
		t.Error(len(l))
	}
	op := drops(0)
	k.h.Drop(0)
	if n := len(census.Reach(g)); n != 0 || census.Alike(g, k.m) {
		t.Error("dropped:", n)
	}
	k.m.Do(op, false)
	if !census.Alike(g, k.m) {
		t.Error("both dropped")
	}
}

// P24.1: how often slots and fields hold an object, those of the dead and the lost too, and several of one object; 0 of what is no object.
func TestNames(t *testing.T) {
	g := bare(t, api.Conf{N: 12, W: 16, R: 3, K: 1})
	x := born(t, g, 1, 0, 0)      // the block 0
	leafy := born(t, g, 20, 0, 1) // 1 to 3
	dead := born(t, g, 2, 0, -1)  // 4
	lone := born(t, g, 2, 0, -1)  // 5
	names := func(r, want int) {
		t.Helper()
		if n := census.Names(g, r); n != want {
			t.Errorf("%d names of %d, want %d", n, r, want)
		}
		check(t, g)
	}
	names(x, 1)
	g.SetRoot(2, x)
	link.Hold(g, x)
	names(x, 2)
	put(t, g, x, 0, x)
	names(x, 3)
	for _, i := range []int{0, 14, 15, 19} {
		put(t, g, leafy, i, x)
	}
	names(x, 7)
	put(t, g, dead, 0, x)
	put(t, g, dead, 1, leafy)
	let(t, g, dead)
	names(x, 8)
	names(leafy, 2)
	names(dead, 0)
	put(t, g, lone, 0, lone)
	put(t, g, lone, 1, x)
	let(t, g, lone)
	names(lone, 1)
	names(x, 9)
	for n := 9; grave.Step(g); n-- {
		check(t, g)
	}
	names(x, 8)
	names(leafy, 1)
	put(t, g, leafy, 15, 0)
	names(x, 7)
	// Leaves, clean blocks, and what is no block.
	for _, r := range append([]int{3, 4, 5, 7, 12, 0, -1, -2, 13, 14, 25}, far...) {
		names(r, 0)
	}
	// A slot that holds what is no object names none.
	g.SetRoot(2, 12)
	names(12, 0)
	g.SetRoot(2, 13)
	names(13, 0)
}

// P24.1, P24.2: what is told is memory of its own: who writes into it changes nothing.
func TestOwnMemory(t *testing.T) {
	k := open(t, small).all(t, allocates(0, 2, 9), allocates(1, 1, 1), stores(0, 1, 1), writes(0, 8, 4))
	g := k.h.Ground()
	for range 2 {
		for _, x := range census.Items(g) {
			clear(x.Object.Data)
			for i := range x.Object.Ptrs {
				x.Object.Ptrs[i] = 99
			}
		}
		l, refs := census.Items(g), census.Reach(g)
		refs[0], refs[1] = 77, 78
		l[0].Ref = 55
		check(t, g)
		alike(t, g, k.m, true)
	}
}

// P24.1, P24.2: none makes an access, whatever it is asked of.
func TestNoAccess(t *testing.T) {
	k := open(t, small).all(t, allocates(0, 1, 20), stores(0, 0, 0), allocates(0, 1, 20))
	g := k.h.Ground()
	for _, f := range []func(){
		func() { census.Items(g) }, func() { census.Reach(g) }, func() { census.Tally(g) }, func() { census.Alike(g, k.m) },
		func() { census.State(g, 0) }, func() { census.State(g, 1) }, func() { census.State(g, 8) }, func() { census.State(g, -1) },
		func() { census.Names(g, 1) }, func() { census.Names(g, 2) }, func() { census.Names(g, 0) },
	} {
		x, meter := rawOf(g), g.Meter()
		f()
		untouched(t, g, x, meter)
	}
}

// P24.1, P24.2, P24.3: of a nil ground, and of a nil ideal heap, there is nothing.
func TestNil(t *testing.T) {
	if l := census.Items(nil); len(l) != 0 {
		t.Error(l)
	}
	if l := census.Reach(nil); len(l) != 0 {
		t.Error(l)
	}
	if n := census.Tally(nil); n != [5]int{} {
		t.Error(n)
	}
	for _, b := range append([]int{0, 1, -1}, far...) {
		if n, ok := census.State(nil, b); n != 0 || ok {
			t.Error(b, n, ok)
		}
		if n := census.Names(nil, b); n != 0 {
			t.Error(b, n)
		}
	}
	k := open(t, small)
	var none *ideal.Ideal
	if census.Alike(nil, nil) || census.Alike(nil, k.m) || census.Alike(k.h.Ground(), nil) || census.Alike(k.h.Ground(), none) {
		t.Error("nothing is alike something")
	}
	if !census.Alike(k.h.Ground(), k.m) {
		t.Error("two new ones aren't alike")
	}
}
