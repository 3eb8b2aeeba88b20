package census_test

import (
	"testing"

	"quitrent/api"
	"quitrent/census"
	"quitrent/plan"
)

// follows tells where a heap is seen otherwise than the ideal one that did the same says, and answers how many blocks have each state.
func (k *both) follows(t *testing.T, o api.Op) [5]int {
	t.Helper()
	g := k.h.Ground()
	alike(t, g, k.m, true)
	n := census.Tally(g)
	if n[used] != k.m.Live() || n[clean] != k.h.Clean() || n[pending] != k.h.Pending() || n[stray] != 0 || n[clean]+n[pending]+n[used]+n[lost] != k.c.N {
		t.Fatalf("%v: %v: %v, of %d blocks live, %d clean, %d pending", k.c, o, n, k.m.Live(), k.h.Clean(), k.h.Pending())
	}
	if l := census.Reach(g); len(l) != len(k.m.Reach()) {
		t.Fatalf("%v: %v: %d are reached, not %d", k.c, o, len(l), len(k.m.Reach()))
	}
	for _, x := range census.Items(g) {
		if names := census.Names(g, x.Ref); x.Count != names || x.Dead != (names == 0) || x.Dead && x.Live {
			t.Fatalf("%v: %v: %v, %d names", k.c, o, x, names)
		}
	}
	return n
}

// P24.4: behind whatever operations a heap is alike the ideal one that did the same, and its blocks have the states that both tell.
func TestWhatFollows(t *testing.T) {
	for i, c := range append([]api.Conf{{N: 20, W: 16, R: 3, K: 1}, {N: 60, W: 17, R: 8, K: 300}}, confs...) {
		seen := [5]int{}
		for seed := range 6 {
			k, next := open(t, c), chance(uint32(20*i+seed+1))
			for turn := range 400 {
				o := anyOp(next, c)
				k.do(t, o)
				for state, n := range k.follows(t, o) {
					if n > 0 {
						seen[state]++
					}
				}
				if turn%50 == 25 {
					check(t, k.h.Ground())
				}
			}
		}
		// Where an operation pays for whole epochs, nothing stays lost for long.
		if seen[clean] < 50 || seen[used] < 50 || seen[pending] < 5 && c.K < 100 || seen[lost] < 5 && c.K < 100 {
			t.Errorf("%v: %v: that tells too little", c, seen)
		}
	}
}

// P24.4: behind enough ticks nothing is pending or lost, and what can be reached stays as it was.
func TestInTheEnd(t *testing.T) {
	waited := 0
	for i, c := range confs {
		numbers, _ := plan.Of(c)
		k, next := open(t, c), chance(uint32(i+3))
		for turn := range 600 {
			k.do(t, anyOp(next, c))
			if turn%60 != 50 {
				continue
			}
			if n := census.Tally(k.h.Ground()); n[pending]+n[lost] > 0 {
				waited++
			}
			for range numbers.Settle {
				k.do(t, ticks())
			}
			if n := k.follows(t, ticks()); n[pending] != 0 || n[lost] != 0 {
				t.Errorf("%v: %v", c, n)
			}
		}
	}
	if waited < 10 {
		t.Errorf("%d times some were pending or lost: that tells too little", waited)
	}
}
