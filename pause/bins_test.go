package pause_test

import (
	"math"
	"slices"
	"testing"

	"quitrent/pause"
)

// counts answers as many counts as the place of the last of those that are named, in pairs of a place and a count.
func counts(pairs ...int) []int {
	l := make([]int, pairs[len(pairs)-2]+1)
	for i := 0; i < len(pairs); i += 2 {
		l[pairs[i]] = pairs[i+1]
	}
	return l
}

// P27.2: the chapter's example, and bins that are told here whole.
func TestBins(t *testing.T) {
	for i, x := range []struct {
		l     []int
		width int
		want  []int
	}{
		{[]int{3, 10, 12, -1}, 5, []int{1, 0, 2}},
		{[]int{0}, 1, []int{1}},
		{[]int{0, 0, 0}, 1, []int{3}},
		{[]int{2, 0, 2, 5, 2}, 1, []int{1, 0, 3, 0, 0, 1}},
		{[]int{12, 10, 3}, 5, []int{1, 0, 2}},
		// Rounded down, on both sides of what a bin has.
		{[]int{4}, 5, []int{1}},
		{[]int{5}, 5, []int{0, 1}},
		{[]int{9}, 5, []int{0, 1}},
		{[]int{10}, 5, []int{0, 0, 1}},
		{[]int{0, 1, 2, 3, 4, 5, 6, 7, 8, 9}, 3, []int{3, 3, 3, 1}},
		// Below 0, also what would be rounded up to 0.
		{[]int{-1, -4, -5, 7}, 5, []int{0, 1}},
		{[]int{-1, 0, math.MinInt}, 1, []int{1}},
		{[]int{-1, 0}, math.MaxInt, []int{1}},
		// The last bin that there may be, and what is behind it.
		{[]int{9999}, 1, counts(9999, 1)},
		{[]int{9999, 10000, 9998, 10001}, 1, counts(9998, 1, 9999, 1)},
		{[]int{10000, 4}, 1, counts(4, 1)},
		{[]int{4, 10000, math.MaxInt, 4}, 1, counts(4, 2)},
		{[]int{69999, 69993, 70000, 69992}, 7, counts(9998, 1, 9999, 2)},
		{[]int{70000, 0}, 7, []int{1}},
		{[]int{9999 << 40, 10000<<40 - 1, 10000 << 40}, 1 << 40, counts(9999, 2)},
		// Far away.
		{[]int{math.MaxInt}, math.MaxInt, []int{0, 1}},
		{[]int{math.MaxInt - 1, 0}, math.MaxInt, []int{2}},
		{[]int{math.MaxInt}, math.MaxInt/2 + 1, []int{0, 1}},
		{[]int{math.MaxInt}, math.MaxInt / 2, []int{0, 0, 1}},
		{[]int{math.MaxInt32, 1 << 32}, 1 << 31, []int{1, 0, 1}},
	} {
		kept := slices.Clone(x.l)
		for range 2 {
			got := pause.Bins(x.l, x.width)
			if !slices.Equal(got, x.want) || !slices.Equal(x.l, kept) {
				t.Errorf("the case %d: %d bins, want %d, of %v", i, len(got), len(x.want), x.l)
			}
			// Whoever gets a list may write into it.
			clear(got)
		}
	}
}

// P27.2: there are none if the width is below 1, or none counts.
func TestNoBins(t *testing.T) {
	for _, width := range []int{0, -1, -2, -5, -1000, math.MinInt, math.MinInt + 1, math.MinInt32} {
		for _, l := range [][]int{nil, {}, {0}, {3, 10, 12, -1}, {-3, -10}, far} {
			if got := pause.Bins(l, width); len(got) != 0 {
				t.Errorf("%v by %d: %v", l, width, got)
			}
		}
	}
	for _, width := range []int{1, 2, 5, 100} {
		for _, l := range [][]int{nil, {}, {-1}, {-1, -5, math.MinInt}, {10000 * width}, {10000*width + 1, 1 << 40, math.MaxInt, -1}} {
			if got := pause.Bins(l, width); len(got) != 0 {
				t.Errorf("%v by %d: %v", l, width, got)
			}
		}
	}
}

// P27.2: of any numbers and any width the bins are what counting each bin by itself says.
func TestAnyBins(t *testing.T) {
	next := chance(27)
	none, long := 0, 0
	for range 400 {
		width := 1 + next(1+next(200))
		l := make([]int, next(60))
		for i := range l {
			l[i] = anyNumber(next, width*(1+next(40)))
			if next(10) == 0 {
				l[i] = width*(9990+next(20)) + next(width)
			}
		}
		got := pause.Bins(l, width)
		want := countEach(l, width)
		if !slices.Equal(got, want) {
			t.Fatalf("%v by %d: %d bins, want %d", l, width, len(got), len(want))
		}
		if len(want) == 0 {
			none++
		}
		if len(want) > 9000 {
			long++
		}
	}
	if none < 3 || long < 30 {
		t.Errorf("%d, %d: that tells too little", none, long)
	}
}

// countEach answers the bins of l by looking which numbers lie between the bounds of each.
func countEach(l []int, width int) []int {
	var counts []int
	for at := range 10000 {
		many := 0
		for _, n := range l {
			if at*width <= n && n < (at+1)*width {
				many++
			}
		}
		if many > 0 {
			counts = append(counts, make([]int, at+1-len(counts))...)
			counts[at] = many
		}
	}
	return counts
}
