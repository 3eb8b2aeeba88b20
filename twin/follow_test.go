package twin_test

import (
	"slices"
	"testing"

	"quitrent/api"
	"quitrent/ideal"
	"quitrent/op"
	"quitrent/twin"
)

// rented are configurations with room, of which the units for each block make some find all soon, and some late.
var rented = []api.Conf{
	{N: 21, W: 16, R: 3, K: 65536}, {N: 60, W: 17, R: 5, K: 2000}, {N: 200, W: 16, R: 4, K: 200}, {N: 150, W: 20, R: 2, K: 350}, {N: 300, W: 16, R: 6, K: 130}, {N: 520, W: 256, R: 4, K: 65536},
}

// tame answers so many operations, none of which asks for more than may be live.
func tame(t *testing.T, next func(int) int, c api.Conf, many int) []api.Op {
	t.Helper()
	m, err := ideal.New(c)
	if err != api.OK {
		t.Fatal(c, err)
	}
	var l []api.Op
	for len(l) < many {
		for _, o := range anyFew(next, c) {
			if blocksOf(c, o) > twin.Spare(c)-m.Live() {
				o = drops(next(c.R))
			}
			m.Do(o, false)
			l = append(l, o)
		}
	}
	return l
}

// anyFew answers any operation, or one or a few by which more is held.
func anyFew(next func(int) int, c api.Conf) []api.Op {
	to, from := next(c.R), next(c.R)
	switch next(8) {
	case 0, 1:
		// A new object holds another one, and takes its slot.
		return []api.Op{allocates(to, 1+next(3), next(3*c.W)), stores(to, 0, from), copies(from, to)}
	case 2:
		// What is held by a field of its own is found by an epoch alone.
		return []api.Op{stores(from, next(3), from)}
	}
	return []api.Op{anyOp(next, c)}
}

// ringed answers operations that make a ring of as many objects with so many leaves as may be live, in the slots 0 and 1, lose it, and so on, so many times.
func ringed(c api.Conf, leaves, times int) []api.Op {
	fields, each := c.W-8, 1
	if leaves > 0 {
		fields, each = leaves*(c.W-1), 1+leaves
	}
	var l []api.Op
	for range times {
		// The slot 0 holds the last one, the slot 1 the one made now: each names the one ahead by its first field, and the next one by its last; the first one names itself.
		for i := range twin.Spare(c) / each {
			l = append(l, allocates(1, fields, 0))
			if i > 0 {
				l = append(l, stores(1, 0, 0), stores(0, fields-1, 1))
			} else {
				l = append(l, stores(1, fields-1, 1), stores(1, 0, 1))
			}
			l = append(l, copies(0, 1))
		}
		l = append(l, drops(0), drops(1))
	}
	return l
}

// P26.2: whatever is done, the heap is never wrong.
func TestNeverWrong(t *testing.T) {
	for i, c := range slices.Concat(confs, rented[2:5], []api.Conf{{N: 2, W: 16, R: 1, K: 1}, {N: 20, W: 16, R: 8, K: 1}, {N: 33, W: 30, R: 12, K: 40}}) {
		for seed := range 12 {
			// play tells where it is.
			play(t, c, anyOps(chance(uint32(100*i+seed)), c, 300))
		}
	}
}

// P26.3: where no more is asked for than may be live, there is always room, whatever else is done.
func TestRoom(t *testing.T) {
	for i, c := range rented {
		live, lost := 0, 0
		for seed := range 10 {
			l := tame(t, chance(uint32(30*i+seed)), c, 700)
			r := play(t, c, l)
			if r.Bound != len(l) || r.Full != 0 || r.Most > twin.Spare(c) {
				t.Fatalf("%v: %d of %d are full, bound at %d, %d live, the first one at %d", c, r.Full, len(l), r.Bound, r.Most, op.First(r.Answers, api.ErrFull))
			}
			live, lost = max(live, r.Most), max(lost, r.Lost)
		}
		if live < min(twin.Spare(c), 30) || lost < 1 {
			t.Errorf("%v: %d were live, %d lost: that tells too little", c, live, lost)
		}
	}
}

// P26.3: so there is where all that may be live is lost at once, time and again.
func TestRoomForRings(t *testing.T) {
	for _, c := range rented[1:5] {
		for _, leaves := range []int{0, 1, 2, c.W - 8} {
			l := ringed(c, leaves, 4)
			r := play(t, c, l)
			most := twin.Spare(c) / (1 + leaves) * (1 + leaves)
			if r.Bound != len(l) || r.Full != 0 || r.Most != most || most > 0 && r.Lost < most {
				t.Errorf("%v, %d leaves: %d of %d are full, bound at %d, %d of %d live, %d lost", c, leaves, r.Full, len(l), r.Bound, r.Most, most, r.Lost)
			}
			// One block more than may be live, ahead of all else that is lost.
			over := slices.Concat(l[:len(l)-2], []api.Op{allocates(1, 0, 0)}, slices.Repeat([]api.Op{drops(0), allocates(0, 0, 0)}, 3))
			if most == twin.Spare(c) {
				if r := play(t, c, over); r.Bound != len(l)-2 {
					t.Errorf("%v, %d leaves: bound at %d, want %d", c, leaves, r.Bound, len(l)-2)
				}
			}
		}
	}
}

// P26.3: whatever is asked for, ahead of the place Bound there is room.
func TestRoomAheadOfBound(t *testing.T) {
	for i, c := range slices.Concat(rented[:4], []api.Conf{small, tight}) {
		full, bound := 0, 0
		for seed := range 10 {
			next := chance(uint32(70*i + seed))
			l := tame(t, next, c, 20*seed)
			// Then as much is asked for as there are blocks, by objects that are held by the one ahead.
			l = append(l, allocates(0, 1, 20), stores(0, 0, 0))
			for range c.N {
				l = append(l, allocates(1, 1, c.W), stores(1, 0, 0), copies(0, 1))
			}
			r := play(t, c, l)
			first := op.First(r.Answers, api.ErrFull)
			if first < r.Bound {
				t.Errorf("%v: full at %d, bound at %d", c, first, r.Bound)
			}
			if first == -1 || r.Full == 0 || r.Most < twin.Spare(c) {
				t.Errorf("%v: it is never full: that tells too little", c)
			}
			full, bound = full+first, bound+r.Bound
		}
		if twin.Spare(c) > 0 && full-bound < 30 {
			t.Errorf("%v: %d, %d: that tells too little", c, full, bound)
		}
	}
}

// P26.4: two heaps of unlike N and K answer alike, up to the first api.ErrFull of either.
func TestTwoHeaps(t *testing.T) {
	sizes := []struct{ n, k int }{{1, 1}, {2, 65536}, {5, 3}, {9, 1}, {9, 400}, {30, 2}, {90, 65536}, {400, 1}}
	for i, shape := range []struct{ w, r int }{{16, 1}, {16, 4}, {19, 7}, {40, 3}} {
		unlike, never := 0, 0
		for seed := range 6 {
			var reports []twin.Report
			next := chance(uint32(40*i + seed))
			drawn := api.Conf{N: 9, W: shape.w, R: shape.r, K: 1}
			l := anyOps(next, drawn, 150)
			for _, x := range sizes {
				reports = append(reports, play(t, api.Conf{N: x.n, W: shape.w, R: shape.r, K: x.k}, l))
			}
			for at, a := range reports {
				for _, b := range reports[:at] {
					here, there := op.First(a.Answers, api.ErrFull), op.First(b.Answers, api.ErrFull)
					first := len(l)
					for _, place := range []int{here, there} {
						if place != -1 {
							first = min(first, place)
						}
					}
					if !slices.Equal(a.Answers[:first], b.Answers[:first]) {
						t.Errorf("%v: the heap %d answers unlike another one, ahead of %d", shape, at, first)
					}
					if first == len(l) {
						never++
					} else if here != there {
						unlike++
					}
				}
			}
		}
		if unlike < 20 || never < 10 {
			t.Errorf("%v: %d, %d: that tells too little", shape, unlike, never)
		}
	}
}
