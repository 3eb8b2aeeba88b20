package work_test

import (
	"fmt"
	"testing"

	"quitrent/api"
	"quitrent/audit"
	"quitrent/census"
	"quitrent/heap"
	"quitrent/obj"
	"quitrent/op"
	"quitrent/plan"
	"quitrent/twin"
	"quitrent/work"
)

// rents are widths and units for each block at which some of a heap may be live: the greatest ones, and such as find all late.
var rents = []struct{ w, k int }{{16, 65536}, {16, 2000}, {16, 140}, {17, 400}, {32, 300}, {256, 9000}}

// justRoom answers the smallest heap of three slots in which n blocks may be live.
func justRoom(t *testing.T, w, k, n int) api.Conf {
	t.Helper()
	c := api.Conf{N: 1, W: w, R: 3, K: k}
	for twin.Spare(c) < n || c.N <= n {
		c.N++
		if plan.Check(c) != api.OK {
			t.Fatalf("no heap of the width %d has room for %d", w, n)
		}
	}
	if n > 0 && twin.Spare(c) != n {
		t.Fatalf("%v: there is room for %d, not just for %d", c, twin.Spare(c), n)
	}
	return c
}

// settle answers after how many ticks all is found.
func settle(t *testing.T, c api.Conf) int {
	t.Helper()
	n, err := plan.Of(c)
	if err != api.OK {
		t.Fatal(c, err)
	}
	return n.Settle
}

// newHeap answers a new heap.
func newHeap(t *testing.T, c api.Conf) *heap.Heap {
	t.Helper()
	h, err := heap.New(c)
	if err != api.OK {
		t.Fatalf("%v: %d", c, err)
	}
	return h
}

// run does operations on a heap, and tells of those that are not done.
func run(t *testing.T, h *heap.Heap, l []api.Op) {
	t.Helper()
	for i, a := range op.Run(h, l) {
		if a.Err != api.OK {
			t.Fatalf("%v: the operation %d, %v, tells %d", h.Conf(), i, l[i], a.Err)
		}
	}
}

// linked looks, without an access, whether the slot 0 holds an object whose word is n, from which those of the words n less 1 to 1 follow, and answers what the last one names; the other slots hold nothing, and no other block is live.
func linked(t *testing.T, h *heap.Heap, n int) int {
	t.Helper()
	g := h.Ground()
	if g.SeeRoot(1) != 0 || g.SeeRoot(2) != 0 {
		t.Fatalf("%v: the slots 1 and 2 hold %d and %d", h.Conf(), g.SeeRoot(1), g.SeeRoot(2))
	}
	at := int(g.SeeRoot(0))
	for i := n; i > 0; i-- {
		o, ok := obj.See(g, at)
		if !ok || len(o.Ptrs) != 1 || len(o.Data) != 1 || o.Data[0] != uint32(i) {
			t.Fatalf("%v: the object with the word %d is %v, %v", h.Conf(), i, o, ok)
		}
		at = o.Ptrs[0]
	}
	if live := len(census.Reach(g)); live != n {
		t.Fatalf("%v: %d objects are live, want %d", h.Conf(), live, n)
	}
	return at
}

// isList looks whether there is a list of n objects.
func isList(t *testing.T, h *heap.Heap, n int) {
	t.Helper()
	if last := linked(t, h, n); last != 0 {
		t.Fatalf("%v: the last one of %d names %d", h.Conf(), n, last)
	}
}

// isRing looks whether there is a ring of n objects.
func isRing(t *testing.T, h *heap.Heap, n int) {
	t.Helper()
	if last := linked(t, h, n); last != int(h.Ground().SeeRoot(0)) {
		t.Fatalf("%v: the last one of %d names %d", h.Conf(), n, last)
	}
}

// isClean looks whether all of a heap is taken back.
func isClean(t *testing.T, h *heap.Heap) {
	t.Helper()
	if h.Clean() != h.Conf().N || !audit.Sound(h.Ground()) {
		t.Fatalf("%v: %d are clean", h.Conf(), h.Clean())
	}
}

// lengths answers how many objects are made with that rent: the widest heap that has room for many would be slow to look at.
func lengths(w int) []int {
	if w == api.MaxW {
		return []int{0, 1, 2, 30}
	}
	return []int{0, 1, 2, 3, 17, 200}
}

// P29.5: lists and rings in heaps with just room for them, again and again, in turn and each by itself, taken back behind Clear.
func TestMadeAndTakenBack(t *testing.T) {
	for _, x := range rents {
		for _, n := range lengths(x.w) {
			c := justRoom(t, x.w, x.k, n)
			for _, what := range []string{"llll", "rrrr", "lrlr", "rlrl", "llrr"} {
				h := newHeap(t, c)
				for _, kind := range what {
					if kind == 'l' {
						run(t, h, work.List(n))
						isList(t, h, n)
					} else {
						run(t, h, work.Ring(n))
						isRing(t, h, n)
					}
					run(t, h, work.Clear(3, settle(t, c)))
					isClean(t, h)
				}
			}
		}
	}
}

// P29.5: so it is with the most objects, also where there is room for more.
func TestMostLinksTakenBack(t *testing.T) {
	for _, c := range []api.Conf{justRoom(t, 16, 2000, 1000), justRoom(t, 16, 140, 1000), {N: 4000, W: 24, R: 3, K: 900}} {
		h := newHeap(t, c)
		for range 3 {
			run(t, h, work.List(1000))
			isList(t, h, 1000)
			run(t, h, work.Clear(3, settle(t, c)))
			isClean(t, h)
			run(t, h, work.Ring(1000))
			isRing(t, h, 1000)
			run(t, h, work.Clear(3, settle(t, c)))
			isClean(t, h)
		}
	}
}

// P29.5: on the greatest heap more ticks are asked for than Clear answers, and these are enough.
func TestGreatestHeapTakenBack(t *testing.T) {
	c := api.Conf{N: 262144, W: 16, R: 3, K: 103}
	if twin.Spare(c) < 1000 || settle(t, c) <= 100000 {
		t.Fatalf("room for %d, settled behind %d", twin.Spare(c), settle(t, c))
	}
	h := newHeap(t, c)
	run(t, h, work.List(1000))
	isList(t, h, 1000)
	run(t, h, work.Clear(3, settle(t, c)))
	isClean(t, h)
	run(t, h, work.Ring(1000))
	isRing(t, h, 1000)
	run(t, h, work.Clear(3, settle(t, c)))
	isClean(t, h)
}

// P29.5: there is always room, also where no tick is in between.
func TestAgainWithoutTicks(t *testing.T) {
	for _, x := range rents {
		for _, n := range lengths(x.w) {
			c := justRoom(t, x.w, x.k, n)
			h := newHeap(t, c)
			for i := range 12 {
				if i%3 == 0 {
					run(t, h, work.List(n))
					isList(t, h, n)
				} else {
					run(t, h, work.Ring(n))
					isRing(t, h, n)
				}
				run(t, h, work.Clear(3, 0))
			}
			run(t, h, work.Clear(0, settle(t, c)))
			isClean(t, h)
		}
	}
}

// P29.5: no list is taken back that is still held, however many ticks there are.
func TestHeldIsKept(t *testing.T) {
	c := justRoom(t, 16, 2000, 50)
	h := newHeap(t, c)
	run(t, h, work.Ring(50))
	run(t, h, work.Clear(0, 3*settle(t, c)))
	isRing(t, h, 50)
	if h.Clean() != c.N-50 {
		t.Errorf("%d of %d are clean", h.Clean(), c.N)
	}
	run(t, h, work.Clear(1, settle(t, c)))
	isClean(t, h)
}

// P29.5: an ideal heap that does the same stands alike behind each operation.
func TestPlayedBesideIdeal(t *testing.T) {
	for n := range 12 {
		for _, x := range rents[:3] {
			c := justRoom(t, x.w, x.k, n)
			var l []api.Op
			for range 3 {
				l = append(l, work.List(n)...)
				l = append(l, work.Clear(3, 1)...)
				l = append(l, work.Ring(n)...)
				l = append(l, work.Clear(3, 2)...)
			}
			r, err := twin.Play(c, l)
			if err != api.OK || r.Wrong != -1 || r.Full != 0 || r.Most != n || r.Bound != len(l) {
				t.Errorf("%v: %d, wrong %d, full %d, most %d, bound %d of %d", c, err, r.Wrong, r.Full, r.Most, r.Bound, len(l))
			}
		}
	}
}

// treeAt looks whether r is a tree of that depth, each object of which is there once, and answers how many objects it has.
func treeAt(t *testing.T, h *heap.Heap, r, depth int, met map[int]bool) int {
	t.Helper()
	o, ok := obj.See(h.Ground(), r)
	if !ok || met[r] || len(o.Ptrs) != 2 || len(o.Data) != 1 || o.Data[0] != uint32(depth) {
		t.Fatalf("the object %d of the depth %d is %v, %v, met %v", r, depth, o, ok, met[r])
	}
	met[r] = true
	if depth == 1 {
		if o.Ptrs[0] != 0 || o.Ptrs[1] != 0 {
			t.Fatalf("the object %d names %v", r, o.Ptrs)
		}
		return 1
	}
	return 1 + treeAt(t, h, o.Ptrs[0], depth-1, met) + treeAt(t, h, o.Ptrs[1], depth-1, met)
}

// P29.2: a tree of each depth stands in the slot 0 of a heap with as many slots and blocks as it needs; all is taken back behind Clear.
func TestTreeStands(t *testing.T) {
	for depth := range 9 {
		c := api.Conf{N: 1 << depth, W: 16, R: max(depth, 1), K: 300}
		h := newHeap(t, c)
		run(t, h, work.Tree(depth))
		if depth > 0 {
			if many := treeAt(t, h, int(h.Ground().SeeRoot(0)), depth, map[int]bool{}); many != 1<<depth-1 {
				t.Errorf("a tree of %d has %d objects", depth, many)
			}
		}
		for s := 1; s < c.R; s++ {
			if h.Ground().SeeRoot(s) != 0 {
				t.Errorf("a tree of %d: the slot %d holds %d", depth, s, h.Ground().SeeRoot(s))
			}
		}
		run(t, h, work.Clear(c.R, settle(t, c)))
		isClean(t, h)
	}
}

// P29.3: an array of any numbers stands in the slot 0, each object of it at its place; all is taken back behind Clear.
func TestArrayStands(t *testing.T) {
	for _, x := range [][2]int{{0, 0}, {0, 9}, {1, 0}, {1, 1}, {8, 8}, {9, 9}, {20, 0}, {20, 100}, {100, 1}, {100, 100}} {
		name := fmt.Sprint(x)
		c := api.Conf{N: 1100, W: 16, R: 2, K: 900}
		h := newHeap(t, c)
		run(t, h, work.Array(x[0], x[1]))
		g := h.Ground()
		all, ok := obj.See(g, int(g.SeeRoot(0)))
		if !ok || len(all.Ptrs) != x[0] || len(all.Data) != 0 || g.SeeRoot(1) != 0 {
			t.Fatalf("%s: %v, %v, and in the slot 1 %d", name, all, ok, g.SeeRoot(1))
		}
		for i, r := range all.Ptrs {
			o, ok := obj.See(g, r)
			if !ok || len(o.Ptrs) != 0 || len(o.Data) != x[1] {
				t.Fatalf("%s: the object %d is %v, %v", name, i, o, ok)
			}
			for j, v := range o.Data {
				if j == 0 && v != uint32(i) || j > 0 && v != 0 {
					t.Fatalf("%s: the words of the object %d are %v", name, i, o.Data)
				}
			}
		}
		run(t, h, work.Clear(2, settle(t, c)))
		isClean(t, h)
	}
}

// P29.4: whatever is drawn, a heap does as an ideal one, and all is taken back behind Clear.
func TestChurnPlayed(t *testing.T) {
	for i, c := range []api.Conf{{N: 1, W: 16, R: 1, K: 3}, {N: 9, W: 16, R: 4, K: 2}, {N: 60, W: 17, R: 5, K: 2000}, {N: 300, W: 16, R: 40, K: 65536}} {
		for _, seed := range seeds {
			l := work.Churn(seed+uint64(i), 300, c.R)
			r, err := twin.Play(c, l)
			if err != api.OK || r.Wrong != -1 {
				t.Errorf("%v, %d: %d, wrong at %d", c, seed, err, r.Wrong)
			}
			for _, a := range r.Answers {
				// All slots that are drawn are there, and objects are small.
				if a.Err == api.ErrSlot || a.Err == api.ErrSize || a.Err == api.ErrOp {
					t.Fatalf("%v, %d: %d", c, seed, a.Err)
				}
			}
			h := newHeap(t, c)
			op.Run(h, l)
			run(t, h, work.Clear(c.R, settle(t, c)))
			isClean(t, h)
		}
	}
}
