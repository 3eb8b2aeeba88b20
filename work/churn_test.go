package work_test

import (
	"fmt"
	"math"
	"math/big"
	"slices"
	"testing"

	"quitrent/api"
	"quitrent/work"
)

// rule draws numbers as the chapter says, in numbers that have no bound.
type rule struct {
	x *big.Int
}

func newRule(seed uint64) *rule {
	return &rule{new(big.Int).SetUint64(seed)}
}

// below draws a number below k.
func (r *rule) below(k int) int {
	factor, _ := new(big.Int).SetString("6364136223846793005", 10)
	addend, _ := new(big.Int).SetString("1442695040888963407", 10)
	two := big.NewInt(2)
	r.x.Mul(r.x, factor)
	r.x.Add(r.x, addend)
	r.x.Mod(r.x, new(big.Int).Exp(two, big.NewInt(64), nil))
	n := new(big.Int).Div(r.x, new(big.Int).Exp(two, big.NewInt(33), nil))
	return int(n.Mod(n, big.NewInt(int64(k))).Int64())
}

// row draws a number below each of these.
func (r *rule) row(l ...int) []int {
	var drawn []int
	for _, k := range l {
		drawn = append(drawn, r.below(k))
	}
	return drawn
}

// op draws an operation.
func (r *rule) op(slots int) api.Op {
	var l []int
	o := api.Op{}
	switch kind := r.below(10); {
	case kind <= 2:
		o.Kind = api.OpAlloc
		l = r.row(slots, 3, 3)
	case kind <= 4:
		o.Kind = api.OpLoad
		l = r.row(slots, slots, 2)
	case kind <= 7:
		o.Kind = api.OpStore
		l = r.row(slots, 2, slots)
	case kind == 8:
		o.Kind = api.OpCopy
		l = r.row(slots, slots)
	default:
		o.Kind = api.OpDrop
		l = r.row(slots)
	}
	for i, n := range l {
		switch i {
		case 0:
			o.A = n
		case 1:
			o.B = n
		case 2:
			o.C = n
		}
	}
	return o
}

// churnOf is what Churn should answer of numbers within their bounds.
func churnOf(seed uint64, n, slots int) []api.Op {
	r := newRule(seed)
	l := make([]api.Op, n)
	for i := range l {
		l[i] = r.op(slots)
	}
	return l
}

// P29.4: drawn operations, written out.
func TestChurnWrittenOut(t *testing.T) {
	for _, x := range []struct {
		seed  uint64
		slots int
		want  string
	}{
		{0, 4, "store 0 1 0; store 3 0 3; load 3 3 0; alloc 1 0 0; store 2 1 3; load 1 3 0; load 3 1 1; alloc 2 2 2; alloc 0 1 1; load 3 0 0; store 3 1 1; alloc 0 2 1"},
		{1, 7, "load 1 1 0; load 1 3 0; drop 4; load 1 4 0; load 4 4 1; alloc 1 1 1; store 4 1 6; load 1 0 0; store 1 0 6; load 5 1 0; store 1 1 2; alloc 6 0 1"},
		{math.MaxUint64, 4096, "copy 2743 1877; alloc 384 2 0; store 1688 0 163; alloc 3216 1 2; alloc 1401 1 2; alloc 3313 2 2; store 2269 1 3517; drop 3030; store 562 0 2456; alloc 1972 1 0; alloc 2436 0 0; store 3416 0 3501"},
		{0, 1, "store 0 1 0; store 0 0 0; load 0 0 0; alloc 0 0 0; store 0 1 0; load 0 0 0"},
	} {
		want := ops(t, x.want)
		hold(t, fmt.Sprint("Churn of ", x.seed), work.Churn(x.seed, len(want), x.slots), want)
	}
}

// P29.4: any seeds and slots, held against the rule; fewer operations are the first ones of more.
func TestChurnByTheRule(t *testing.T) {
	for _, seed := range seeds {
		for _, slots := range []int{1, 2, 3, 10, 100, 4095, 4096} {
			name := fmt.Sprint("Churn of ", seed, " on ", slots)
			want := churnOf(seed, 200, slots)
			hold(t, name, work.Churn(seed, 200, slots), want)
			for n := range 20 {
				hold(t, name, work.Churn(seed, n, slots), want[:n])
			}
		}
	}
	for seed := range uint64(300) {
		seed *= 0x9E3779B97F4A7C15
		hold(t, fmt.Sprint("Churn of ", seed), work.Churn(seed, 60, 5), churnOf(seed, 60, 5))
	}
}

// P29.4: the most operations, in which all kinds are met with all numbers that they may have.
func TestChurnOfMostOperations(t *testing.T) {
	for _, seed := range []uint64{0, 29, math.MaxUint64} {
		l := work.Churn(seed, api.MaxOps, 3)
		hold(t, fmt.Sprint("Churn of ", seed), l, churnOf(seed, 5000, 3))
		met := map[api.Op]bool{}
		for _, o := range l {
			met[o] = true
		}
		// 27 Allocs, 18 Loads, 18 Stores, 9 Copies, 3 Drops.
		if len(met) != 75 {
			t.Errorf("Churn of %d: %d unlike operations, want 75", seed, len(met))
		}
	}
}

// P29.4: n and slots beyond their bounds, each by itself.
func TestChurnBeyondBounds(t *testing.T) {
	few, many := churnOf(5, 50, 1), churnOf(5, 50, 4096)
	all := churnOf(5, 5000, 4)
	for _, n := range append(slices.Clone(low), 0) {
		hold(t, fmt.Sprint(n, " slots"), work.Churn(5, 50, n), few)
		hold(t, fmt.Sprint(n, " operations"), work.Churn(5, n, 4), nil)
		hold(t, fmt.Sprint(n, " of both"), work.Churn(5, n, n), nil)
	}
	for _, n := range append([]int{5001, 5002, 10000}, high...) {
		hold(t, fmt.Sprint(n, " slots"), work.Churn(5, 50, n), many)
		hold(t, fmt.Sprint(n, " operations"), work.Churn(5, n, 4), all)
	}
	for _, n := range []int{4097, 4098, 8192} {
		hold(t, fmt.Sprint(n, " slots"), work.Churn(5, 50, n), many)
	}
	for _, n := range []int{4999, 5000} {
		hold(t, fmt.Sprint(n, " operations"), work.Churn(5, n, 4), all[:n])
	}
}
