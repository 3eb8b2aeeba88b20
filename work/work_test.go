package work_test

import (
	"fmt"
	"slices"
	"strings"
	"testing"

	"quitrent/api"
	"quitrent/work"
)

// linkOf is the operation at a place of those that make a list.
func linkOf(at int) api.Op {
	switch at % 4 {
	case 0:
		return api.Op{Kind: api.OpAlloc, A: 1, B: 1, C: 1}
	case 1:
		return api.Op{Kind: api.OpWrite, A: 1, B: 0, V: uint32(at/4 + 1)}
	case 2:
		return api.Op{Kind: api.OpStore, A: 1, B: 0, C: 0}
	}
	return api.Op{Kind: api.OpCopy, A: 0, B: 1}
}

// listOf is what List should answer of n from 0 to 1000.
func listOf(n int) []api.Op {
	l := make([]api.Op, 4*n+1)
	for i := range 4 * n {
		l[i] = linkOf(i)
	}
	l[4*n] = api.Op{Kind: api.OpDrop, A: 1}
	return l
}

// ringOf is what Ring should answer of n from 0 to 1000.
func ringOf(n int) []api.Op {
	l := listOf(n)
	if n == 0 {
		return l
	}
	return slices.Concat(l[:4], []api.Op{{Kind: api.OpCopy, A: 2, B: 0}}, l[4:], []api.Op{{Kind: api.OpStore, A: 2, B: 0, C: 0}, {Kind: api.OpDrop, A: 2}})
}

// P29.1: lists, written out.
func TestListWrittenOut(t *testing.T) {
	for n, want := range []string{
		"drop 1",
		"alloc 1 1 1; write 1 0 1; store 1 0 0; copy 0 1; drop 1",
		"alloc 1 1 1; write 1 0 1; store 1 0 0; copy 0 1; alloc 1 1 1; write 1 0 2; store 1 0 0; copy 0 1; drop 1",
		"alloc 1 1 1; write 1 0 1; store 1 0 0; copy 0 1; alloc 1 1 1; write 1 0 2; store 1 0 0; copy 0 1; alloc 1 1 1; write 1 0 3; store 1 0 0; copy 0 1; drop 1",
	} {
		hold(t, fmt.Sprint("List of ", n), work.List(n), ops(t, want))
	}
}

// P29.1: rings, written out.
func TestRingWrittenOut(t *testing.T) {
	for n, want := range []string{
		"drop 1",
		"alloc 1 1 1; write 1 0 1; store 1 0 0; copy 0 1; copy 2 0; drop 1; store 2 0 0; drop 2",
		"alloc 1 1 1; write 1 0 1; store 1 0 0; copy 0 1; copy 2 0; alloc 1 1 1; write 1 0 2; store 1 0 0; copy 0 1; drop 1; store 2 0 0; drop 2",
		"alloc 1 1 1; write 1 0 1; store 1 0 0; copy 0 1; copy 2 0; alloc 1 1 1; write 1 0 2; store 1 0 0; copy 0 1; alloc 1 1 1; write 1 0 3; store 1 0 0; copy 0 1; drop 1; store 2 0 0; drop 2",
	} {
		hold(t, fmt.Sprint("Ring of ", n), work.Ring(n), ops(t, want))
	}
}

// P29.1: lists and rings of all lengths.
func TestLinksOfAllLengths(t *testing.T) {
	for n := range 1001 {
		hold(t, fmt.Sprint("List of ", n), work.List(n), listOf(n))
		hold(t, fmt.Sprint("Ring of ", n), work.Ring(n), ringOf(n))
	}
}

// P29.1: beyond the bounds they are as at the bounds.
func TestLinksBeyondBounds(t *testing.T) {
	for _, n := range low {
		hold(t, fmt.Sprint("List of ", n), work.List(n), listOf(0))
		hold(t, fmt.Sprint("Ring of ", n), work.Ring(n), ringOf(0))
	}
	for _, n := range append([]int{1001, 1002, 2000, 5000}, high...) {
		hold(t, fmt.Sprint("List of ", n), work.List(n), listOf(1000))
		hold(t, fmt.Sprint("Ring of ", n), work.Ring(n), ringOf(1000))
	}
}

// P29.2: trees, written out.
func TestTreeWrittenOut(t *testing.T) {
	for depth, want := range []string{
		"",
		"alloc 0 2 1; write 0 0 1",
		"alloc 0 2 1; write 0 0 2; alloc 1 2 1; write 1 0 1; store 0 0 1; alloc 1 2 1; write 1 0 1; store 0 1 1; drop 1",
		"alloc 0 2 1; write 0 0 3; " +
			"alloc 1 2 1; write 1 0 2; alloc 2 2 1; write 2 0 1; store 1 0 2; alloc 2 2 1; write 2 0 1; store 1 1 2; store 0 0 1; " +
			"alloc 1 2 1; write 1 0 2; alloc 2 2 1; write 2 0 1; store 1 0 2; alloc 2 2 1; write 2 0 1; store 1 1 2; store 0 1 1; " +
			"drop 1; drop 2",
	} {
		hold(t, fmt.Sprint("Tree of ", depth), work.Tree(depth), ops(t, want))
	}
}

// treeText is the text of Build(s, d).
func treeText(s, d int) string {
	first := fmt.Sprintf("alloc %d 2 1; write %d 0 %d", s, s, d)
	if d == 1 {
		return first
	}
	part := treeText(s+1, d-1)
	return strings.Join([]string{first, part, fmt.Sprintf("store %d 0 %d", s, s+1), part, fmt.Sprintf("store %d 1 %d", s, s+1)}, "; ")
}

// treeOf is what Tree should answer of a depth from 0 to 8.
func treeOf(t *testing.T, depth int) []api.Op {
	t.Helper()
	if depth == 0 {
		return nil
	}
	s := treeText(0, depth)
	for slot := 1; slot < depth; slot++ {
		s += fmt.Sprintf("; drop %d", slot)
	}
	return ops(t, s)
}

// P29.2: trees of all depths, and beyond the bounds.
func TestTreeOfAllDepths(t *testing.T) {
	for depth := range 9 {
		l := work.Tree(depth)
		hold(t, fmt.Sprint("Tree of ", depth), l, treeOf(t, depth))
		// Of each object there are an Alloc and a Write, of each but the root one a Store.
		if objects := 1<<depth - 1; len(l) != max(3*objects-1, 0)+max(depth-1, 0) {
			t.Errorf("Tree of %d: %d operations", depth, len(l))
		}
	}
	for _, depth := range low {
		hold(t, fmt.Sprint("Tree of ", depth), work.Tree(depth), nil)
	}
	greatest := treeOf(t, 8)
	for _, depth := range append([]int{9, 10, 16, 64, 100, 1000}, high...) {
		hold(t, fmt.Sprint("Tree of ", depth), work.Tree(depth), greatest)
	}
}

// P29.3: arrays, written out: words that there aren't are not written.
func TestArrayWrittenOut(t *testing.T) {
	for _, x := range []struct {
		n, m int
		want string
	}{
		{0, 0, "alloc 0 0 0; drop 1"},
		{0, 5, "alloc 0 0 0; drop 1"},
		{1, 0, "alloc 0 1 0; alloc 1 0 0; store 0 0 1; drop 1"},
		{1, 1, "alloc 0 1 0; alloc 1 0 1; write 1 0 0; store 0 0 1; drop 1"},
		{1, 100, "alloc 0 1 0; alloc 1 0 100; write 1 0 0; store 0 0 1; drop 1"},
		{2, 0, "alloc 0 2 0; alloc 1 0 0; store 0 0 1; alloc 1 0 0; store 0 1 1; drop 1"},
		{3, 7, "alloc 0 3 0; alloc 1 0 7; write 1 0 0; store 0 0 1; alloc 1 0 7; write 1 0 1; store 0 1 1; alloc 1 0 7; write 1 0 2; store 0 2 1; drop 1"},
	} {
		hold(t, fmt.Sprint("Array of ", x.n, " and ", x.m), work.Array(x.n, x.m), ops(t, x.want))
	}
}

// arrayOf is what Array should answer of numbers from 0 to 100.
func arrayOf(n, m int) []api.Op {
	l := []api.Op{{Kind: api.OpAlloc, A: 0, B: n}}
	for i := range n {
		l = append(l, api.Op{Kind: api.OpAlloc, A: 1, C: m})
		if m > 0 {
			l = append(l, api.Op{Kind: api.OpWrite, A: 1, V: uint32(i)})
		}
		l = append(l, api.Op{Kind: api.OpStore, A: 0, B: i, C: 1})
	}
	return append(l, api.Op{Kind: api.OpDrop, A: 1})
}

// P29.3: arrays of all numbers, and beyond the bounds, each number by itself.
func TestArrayOfAllNumbers(t *testing.T) {
	for n := range 101 {
		for m := range 101 {
			hold(t, fmt.Sprint("Array of ", n, " and ", m), work.Array(n, m), arrayOf(n, m))
		}
	}
	within := func(n int) int { return min(max(n, 0), 100) }
	numbers := slices.Concat(low, []int{0, 1, 99, 100, 101, 102, 200, 1000}, high)
	for _, n := range numbers {
		for _, m := range numbers {
			hold(t, fmt.Sprint("Array of ", n, " and ", m), work.Array(n, m), arrayOf(within(n), within(m)))
		}
	}
}

// clears looks whether Clear answers so many Drops, and then so many Ticks.
func clears(t *testing.T, slots, ticks, wantDrops, wantTicks int) {
	t.Helper()
	l := work.Clear(slots, ticks)
	if len(l) != wantDrops+wantTicks {
		t.Fatalf("Clear(%d, %d): %d operations, want %d and %d", slots, ticks, len(l), wantDrops, wantTicks)
	}
	for i, o := range l {
		want := api.Op{Kind: api.OpTick}
		if i < wantDrops {
			want = api.Op{Kind: api.OpDrop, A: i}
		}
		if o != want {
			t.Fatalf("Clear(%d, %d): the operation %d is %v, want %v", slots, ticks, i, o, want)
		}
	}
}

// P29.3: slots and ticks within their bounds, and beyond them, each by itself.
func TestClear(t *testing.T) {
	hold(t, "Clear(3, 2)", work.Clear(3, 2), ops(t, "drop 0; drop 1; drop 2; tick; tick"))
	hold(t, "Clear(1, 0)", work.Clear(1, 0), ops(t, "drop 0"))
	hold(t, "Clear(0, 1)", work.Clear(0, 1), ops(t, "tick"))
	hold(t, "Clear(0, 0)", work.Clear(0, 0), nil)
	for slots := range 40 {
		for ticks := range 40 {
			clears(t, slots, ticks, slots, ticks)
		}
	}
	numbers := slices.Concat(low, []int{0, 1, 2, 4095, 4096, 4097, 4098, 8192, 99999, 100000}, high)
	for _, n := range numbers {
		slots, ticks := min(max(n, 0), 4096), min(max(n, 0), 100000)
		clears(t, n, 3, slots, 3)
		clears(t, 3, n, 3, ticks)
		clears(t, n, n, slots, ticks)
		clears(t, n, -n, slots, min(max(-n, 0), 100000))
	}
}

// R3: what is answered is memory of its own, and R4: the same call answers the same.
func TestAnswersAreTheirOwn(t *testing.T) {
	for i, f := range []func() []api.Op{
		func() []api.Op { return work.List(0) },
		func() []api.Op { return work.List(40) },
		func() []api.Op { return work.Ring(0) },
		func() []api.Op { return work.Ring(1) },
		func() []api.Op { return work.Ring(40) },
		func() []api.Op { return work.Tree(0) },
		func() []api.Op { return work.Tree(5) },
		func() []api.Op { return work.Array(9, 3) },
		func() []api.Op { return work.Clear(9, 9) },
		func() []api.Op { return work.Churn(7, 90, 9) },
	} {
		l := f()
		kept := slices.Clone(l)
		other := f()
		for j := range l {
			l[j] = api.Op{Kind: -1, A: -1, B: -1, C: -1, V: 1}
		}
		_ = append(l[:len(l):cap(l)], api.Op{Kind: -2})
		if !same(other, kept) || !same(f(), kept) {
			t.Errorf("the call %d answers other operations when it is made again", i)
		}
	}
}
