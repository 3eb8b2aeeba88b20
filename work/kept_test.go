package work_test

import (
	"math"
	"slices"
	"strings"
	"testing"

	"quitrent/api"
	"quitrent/op"
	"quitrent/optext"
)

// low are numbers that are far below all bounds, high such that are far above them; some would lie within, if they went round or were cut to fewer bits.
var (
	low  = []int{math.MinInt, math.MinInt + 1, math.MinInt + 3, -1 << 62, -1<<32 + 1, -1<<32 + 5, math.MinInt32, -4097, -1001, -1000, -2, -1}
	high = []int{100001, 1 << 20, math.MaxInt32, math.MaxUint32, 1 << 32, 1<<32 + 1, 1<<32 + 7, 1 << 50, 1<<50 + 1, 1 << 62, math.MaxInt - 1, math.MaxInt}
)

// seeds are some from which numbers are drawn, with the least and the greatest one.
var seeds = []uint64{0, 1, 2, 3, 29, 1 << 31, 1 << 32, 1 << 33, 1<<63 - 1, 1 << 63, math.MaxUint64 - 1, math.MaxUint64}

// ops answers the operations of such a text, the lines of which are parted by a semicolon and a blank; none of an empty one.
func ops(t *testing.T, text string) []api.Op {
	t.Helper()
	var l []api.Op
	if text == "" {
		return l
	}
	for _, line := range strings.Split(text, "; ") {
		o, err := optext.Op(line)
		if err != api.OK {
			t.Fatalf("%q: %d", line, err)
		}
		l = append(l, o)
	}
	return l
}

// text answers the text of operations.
func text(l []api.Op) string {
	var lines []string
	for _, o := range l {
		line, err := optext.Line(o)
		if err != api.OK {
			line = "?"
		}
		lines = append(lines, line)
	}
	return strings.Join(lines, "; ")
}

// hold tells where two lists of operations are unlike first, or one of them isn't plain.
func hold(t *testing.T, name string, got, want []api.Op) {
	t.Helper()
	if len(got) != len(want) {
		t.Fatalf("%s: %d operations, want %d: %.300s", name, len(got), len(want), text(got))
	}
	for i, o := range got {
		if o != want[i] {
			t.Fatalf("%s: the operation %d is %v, want %v", name, i, o, want[i])
		}
		if !op.Plain(o) {
			t.Fatalf("%s: the operation %d, %v, isn't plain", name, i, o)
		}
	}
}

// same tells whether two lists of operations are the same.
func same(a, b []api.Op) bool {
	return slices.Equal(a, b)
}
