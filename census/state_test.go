package census_test

import (
	"testing"

	"quitrent/api"
	"quitrent/census"
	"quitrent/grave"
	"quitrent/ground"
	"quitrent/obj"
	"quitrent/tag"
)

// setTag makes t the tag of a block.
func setTag(t *testing.T, g *ground.Ground, b int, x api.Tag) {
	t.Helper()
	w, err := tag.Pack(x)
	if err != api.OK || !g.SetWord(b, 0, w) {
		t.Fatalf("%v, %d: %d", x, b, err)
	}
}

// states tells where the blocks from 0 on have other states than those.
func states(t *testing.T, name string, g *ground.Ground, want ...int) {
	t.Helper()
	tally := [5]int{}
	for b, state := range want {
		tally[state]++
		if n, ok := census.State(g, b); n != state || !ok {
			t.Errorf("%s: the block %d: %d, %t, want %d", name, b, n, ok, state)
		}
	}
	if n := census.Tally(g); n != tally {
		t.Errorf("%s: %v, want %v", name, n, tally)
	}
	check(t, g)
}

// P24.2: the states' numbers.
func TestStates(t *testing.T) {
	if census.Clean != 0 || census.Pending != 1 || census.Used != 2 || census.Lost != 3 || census.Stray != 4 {
		t.Error(census.Clean, census.Pending, census.Used, census.Lost, census.Stray)
	}
}

// P24.2: the states of heads and leaves of objects in a slot, in a field, in neither, and of dead ones, till these have given all blocks.
func TestState(t *testing.T) {
	g := bare(t, api.Conf{N: 16, W: 16, R: 2, K: 1})
	states(t, "new", g, 0, 0, 0, 0, 0, 0, 0, 0, 0, 0, 0, 0, 0, 0, 0, 0)
	held := born(t, g, 1, 0, 1)      // the block 0
	inField := born(t, g, 2, 14, -1) // 1 to 3
	lone := born(t, g, 1, 8, -1)     // 4 to 5
	dead := born(t, g, 1, 18, -1)    // 6 to 8
	byDead := born(t, g, 0, 3, -1)   // 9
	free := born(t, g, 0, 0, -1)     // 10
	put(t, g, held, 0, inField)
	put(t, g, lone, 0, lone)
	put(t, g, dead, 0, byDead)
	let(t, g, inField, lone, byDead)
	states(t, "none dead", g, 2, 2, 2, 2, 3, 3, 3, 3, 3, 3, 3, 0, 0, 0, 0, 0)
	let(t, g, dead)
	states(t, "one dead", g, 2, 2, 2, 2, 3, 3, 1, 1, 1, 3, 3, 0, 0, 0, 0, 0)
	let(t, g, free)
	states(t, "two dead", g, 2, 2, 2, 2, 3, 3, 1, 1, 1, 3, 1, 0, 0, 0, 0, 0)
	grave.Release(g)
	states(t, "a leaf given", g, 2, 2, 2, 2, 3, 3, 1, 1, 0, 3, 1, 0, 0, 0, 0, 0)
	grave.Step(g)
	states(t, "the field drained", g, 2, 2, 2, 2, 3, 3, 1, 1, 0, 1, 1, 0, 0, 0, 0, 0)
	grave.Release(g)
	states(t, "both leaves given", g, 2, 2, 2, 2, 3, 3, 1, 0, 0, 1, 1, 0, 0, 0, 0, 0)
	grave.Release(g)
	states(t, "the head given", g, 2, 2, 2, 2, 3, 3, 0, 0, 0, 1, 1, 0, 0, 0, 0, 0)
	for grave.Step(g) {
	}
	states(t, "all given", g, 2, 2, 2, 2, 3, 3, 0, 0, 0, 0, 0, 0, 0, 0, 0, 0)
	put(t, g, held, 0, 0)
	states(t, "another one dead", g, 2, 1, 1, 1, 3, 3, 0, 0, 0, 0, 0, 0, 0, 0, 0, 0)
	g.SetRoot(1, 0)
	g.SetRoot(0, lone)
	states(t, "another one in a slot", g, 3, 1, 1, 1, 2, 2, 0, 0, 0, 0, 0, 0, 0, 0, 0, 0)
}

// P24.2: a leaf is as its owner, if that is a head of the kind Spine, and else a stray; the owner's own marks but Dead tell nothing.
func TestStray(t *testing.T) {
	for _, x := range []struct {
		name  string
		owner api.Tag
		state int
	}{
		{"free", api.Tag{Kind: api.Free}, stray},
		{"small", api.Tag{Kind: api.Small}, stray},
		{"small and dead", api.Tag{Kind: api.Small, Dead: 1}, stray},
		{"another leaf", api.Tag{Kind: api.Leaf, Owner: 1}, stray},
		{"another stray", api.Tag{Kind: api.Leaf, Owner: 2}, stray},
		{"a spine", api.Tag{Kind: api.Spine}, lost},
		{"a dead spine", api.Tag{Kind: api.Spine, Dead: 1}, pending},
		{"a spine with marks", api.Tag{Kind: api.Spine, Color: 1, Count: 1, Shade: 1, Ring: 1}, lost},
		{"a dead spine with marks", api.Tag{Kind: api.Spine, Color: 1, Count: 1, Shade: 1, Dead: 1, Ring: 1}, pending},
	} {
		g := bare(t, api.Conf{N: 6, W: 16, R: 2, K: 1})
		born(t, g, 1, 12, 0) // the blocks 0 and 1
		setTag(t, g, 2, api.Tag{Kind: api.Leaf, Owner: 3})
		setTag(t, g, 3, x.owner)
		if n, ok := census.State(g, 2); n != x.state || !ok {
			t.Errorf("%s: %d, %t, want %d", x.name, n, ok, x.state)
		}
		check(t, g)
		if x.state != lost {
			continue
		}
		g.SetRoot(1, 4)
		if n, ok := census.State(g, 2); n != used || !ok {
			t.Errorf("%s, in a slot: %d, %t", x.name, n, ok)
		}
		check(t, g)
	}
}

// P24.2: a leaf whose owner is itself, or no block, is a stray, whatever the slots hold.
func TestStrayOfNone(t *testing.T) {
	for _, owner := range []int{2, 6, 7, 100, 1 << 19, api.MaxN - 1} {
		g := bare(t, api.Conf{N: 6, W: 16, R: 2, K: 1})
		setTag(t, g, 2, api.Tag{Kind: api.Leaf, Owner: owner})
		g.SetRoot(0, 3)
		g.SetRoot(1, owner+1)
		states(t, "owned by none", g, 0, 0, stray, 0, 0, 0)
	}
	g := bare(t, api.Conf{N: 6, W: 16, R: 2, K: 1})
	// A leaf of the head that is the block 0.
	r := born(t, g, 1, 12, 0)
	states(t, "owned", g, used, used, 0, 0, 0, 0)
	obj.End(g, r)
	states(t, "its head ended", g, 0, stray, 0, 0, 0, 0)
}

// P24.2: of what is no block there is no state.
func TestNoState(t *testing.T) {
	for _, c := range confs {
		k := open(t, c).all(t, allocates(0, 1, 0))
		for _, b := range append([]int{-1, -2, -c.N, c.N, c.N + 1, 2 * c.N}, far...) {
			if n, ok := census.State(k.h.Ground(), b); n != 0 || ok {
				t.Errorf("%v: there is no block %d, but it is %d, %t", c, b, n, ok)
			}
		}
		if n, ok := census.State(k.h.Ground(), c.N-1); n != clean || !ok {
			t.Errorf("%v: the last block: %d, %t", c, n, ok)
		}
	}
}

// P24.1, P24.2: of the greatest heaps, and of the greatest objects.
func TestGreatest(t *testing.T) {
	c := api.Conf{N: api.MaxWords / 16, W: 16, R: api.MaxR, K: 1}
	g, _ := ground.New(c)
	setTag(t, g, c.N-1, api.Tag{Kind: api.Leaf, Owner: c.N - 2})
	setTag(t, g, c.N-2, api.Tag{Kind: api.Spine})
	g.SetRoot(c.R-1, c.N-1)
	if n := census.Tally(g); n != [5]int{c.N - 2, 0, 2, 0, 0} {
		t.Error(n)
	}
	if l := census.Reach(g); len(l) != 1 || l[0] != c.N-1 || census.Names(g, c.N-1) != 1 {
		t.Error(l, census.Names(g, c.N-1))
	}
	w := api.Conf{N: 600, W: 256, R: 2, K: 1}
	k := open(t, w)
	for _, o := range []api.Op{allocates(0, 63239, 1), stores(0, 63238, 0), writes(0, 0, 9), allocates(1, 0, 63240), stores(0, 5, 1), drops(1)} {
		if a := k.do(t, o); a.Err != api.OK {
			t.Fatal(o, a)
		}
	}
	l := census.Items(k.h.Ground())
	if len(l) != 2 || l[0].Blocks != 249 || l[1].Blocks != 249 || !l[1].Live || len(l[0].Object.Ptrs) != 63239 || len(l[1].Object.Data) != 63240 {
		t.Error(len(l))
	}
	if n := census.Tally(k.h.Ground()); n != [5]int{102, 0, 498, 0, 0} {
		t.Error(n)
	}
	alike(t, k.h.Ground(), k.m, true)
}

// P1: whatever the words are, each call ends, and makes no access.
func TestAnyWords(t *testing.T) {
	for seed := range 400 {
		next := chance(uint32(seed))
		c := confs[seed%len(confs)]
		k := open(t, c)
		g := k.h.Ground()
		l := g.Words()
		for i := range l {
			switch next(4) {
			case 0:
				l[i] = uint32(next(1<<12) * next(1<<20))
			case 1:
				l[i] = uint32(next(c.N + 2))
			case 2:
				l[i] = most
			}
		}
		for b := range c.N {
			// Some blocks have lengths that are near.
			at := 24 + c.R + b*c.W
			l[at] = uint32(next(4) | next(1<<5)<<2 | next(c.N+2)<<8)
			if next(2) == 0 {
				l[at+1], l[at+2] = uint32(next(2*c.W)), uint32(next(2*c.W))
			}
		}
		g.Load(l)
		x, meter := rawOf(g), g.Meter()
		all := 0
		for _, n := range census.Tally(g) {
			all += n
		}
		if all != c.N || len(census.Reach(g)) > len(census.Items(g)) {
			t.Errorf("%d: %d blocks, %d reached, %d items", seed, all, len(census.Reach(g)), len(census.Items(g)))
		}
		for b := -1; b <= c.N+1; b++ {
			census.State(g, b)
			census.Names(g, b)
		}
		census.Alike(g, k.m)
		untouched(t, g, x, meter)
	}
}
