package ratio_test

import (
	"math"
	"math/big"
	"slices"
	"testing"

	"quitrent/ratio"
)

// most is the bound as the chapter tells it, so that another Most is found.
const most = 1 << 50

// someInts are numbers below 0, within the bound and above it, with the ends of each and of what an int holds.
var someInts = []int{
	math.MinInt, math.MinInt + 1, -1 << 62, -most - 1, -most, -1 << 32, -7, -1,
	0, 1, 2, 3, 7, 100, 1<<25 - 1, 1 << 25, 1<<25 + 1, 1 << 30, 1 << 32,
	most / 3, most/2 - 1, most / 2, most/2 + 1, most - 1, most,
	most + 1, 1 << 51, 1 << 60, 1 << 62, math.MaxInt - 1, math.MaxInt,
}

// counts answers what a number counts as.
func counts(n int) *big.Int {
	switch {
	case n < 0:
		return big.NewInt(0)
	case n > most:
		return big.NewInt(most)
	}
	return big.NewInt(int64(n))
}

// stopped answers a number of any size, or the bound where it is above that.
func stopped(b *big.Int) int {
	if b.Cmp(big.NewInt(most)) > 0 {
		return most
	}
	return int(b.Int64())
}

// sumOf answers what Add is to answer, reckoned without a bound ahead of the end.
func sumOf(l ...int) int {
	sum := big.NewInt(0)
	for _, n := range l {
		sum.Add(sum, counts(n))
	}
	return stopped(sum)
}

// productOf answers what Mul is to answer, reckoned without a bound ahead of the end.
func productOf(l ...int) int {
	product := big.NewInt(1)
	for _, n := range l {
		product.Mul(product, counts(n))
	}
	return stopped(product)
}

// partsOf answers what Down and Up are to answer.
func partsOf(a, b int) (down, up int) {
	d := counts(b)
	if d.Sign() == 0 {
		d.SetInt64(1)
	}
	q, rest := new(big.Int).QuoRem(counts(a), d, new(big.Int))
	down = int(q.Int64())
	if rest.Sign() > 0 {
		return down, down + 1
	}
	return down, down
}

func TestMost(t *testing.T) {
	if ratio.Most != most {
		t.Errorf("Most: %d, not 2^50", ratio.Most)
	}
}

func TestClamp(t *testing.T) {
	for _, x := range []struct{ n, low, high, want int }{
		{5, 1, 9, 5}, {1, 1, 9, 1}, {9, 1, 9, 9}, {0, 1, 9, 1}, {10, 1, 9, 9},
		{-3, -5, -1, -3}, {-6, -5, -1, -5}, {0, -5, -1, -1}, {4, 4, 4, 4}, {3, 4, 4, 4}, {5, 4, 4, 4},
		// Low above high.
		{3, 9, 5, 9}, {5, 9, 5, 9}, {6, 9, 5, 5}, {7, 9, 5, 5}, {9, 9, 5, 5}, {10, 9, 5, 5}, {-1, 1, -1, 1}, {0, 1, -1, -1},
		{0, math.MaxInt, math.MinInt, math.MinInt}, {math.MinInt, math.MaxInt, math.MinInt, math.MaxInt},
		// No bound but those that are handed in.
		{math.MinInt, math.MinInt, math.MaxInt, math.MinInt}, {math.MaxInt, math.MinInt, math.MaxInt, math.MaxInt},
		{most + 1, 0, math.MaxInt, most + 1}, {-1, math.MinInt, 0, -1},
		{math.MaxInt, 0, most + 5, most + 5}, {math.MinInt, -most - 5, 0, -most - 5},
		{0, most + 1, math.MaxInt, most + 1}, {0, math.MinInt, -7, -7},
	} {
		if got := ratio.Clamp(x.n, x.low, x.high); got != x.want {
			t.Errorf("Clamp(%d, %d, %d): %d, not %d", x.n, x.low, x.high, got, x.want)
		}
	}
}

func TestClampAll(t *testing.T) {
	for _, n := range someInts {
		for _, low := range someInts {
			for _, high := range someInts {
				want := n
				switch {
				case n > high:
					want = high
				case n < low:
					want = low
				}
				if got := ratio.Clamp(n, low, high); got != want {
					t.Errorf("Clamp(%d, %d, %d): %d, not %d", n, low, high, got, want)
				}
			}
		}
	}
}

func TestAdd(t *testing.T) {
	for _, x := range []struct {
		l    []int
		want int
	}{
		{nil, 0}, {[]int{}, 0}, {[]int{0}, 0}, {[]int{5}, 5}, {[]int{1, 2, 3, 4}, 10}, {[]int{0, 7, 0}, 7},
		{[]int{-1}, 0}, {[]int{-5, 3}, 3}, {[]int{3, -5}, 3}, {[]int{-5, 3, 1 << 60}, most},
		{[]int{math.MinInt}, 0}, {[]int{math.MinInt, math.MinInt}, 0}, {[]int{math.MinInt, 8}, 8},
		{[]int{most - 1}, most - 1}, {[]int{most}, most}, {[]int{most + 1}, most}, {[]int{math.MaxInt}, most},
		{[]int{most - 3, 2}, most - 1}, {[]int{most - 2, 2}, most}, {[]int{most - 1, 2}, most},
		{[]int{most / 2, most/2 - 1}, most - 1}, {[]int{most / 2, most / 2}, most}, {[]int{most / 2, most / 2, 1}, most},
		{[]int{most, -1}, most}, {[]int{most + 1, -1}, most}, {[]int{math.MaxInt, math.MinInt}, most},
		{[]int{math.MaxInt, 1}, most}, {[]int{math.MaxInt, math.MaxInt}, most}, {[]int{math.MaxInt, math.MaxInt, 2}, most},
		// What an int holds is passed many times over, if sums aren't stopped.
		{slices.Repeat([]int{most}, 1<<13), most}, {slices.Repeat([]int{most}, 1<<14), most}, {slices.Repeat([]int{math.MaxInt}, 1000), most},
		{slices.Repeat([]int{1}, 1000), 1000},
	} {
		if got := ratio.Add(x.l...); got != x.want {
			t.Errorf("Add(%d numbers, %v ..): %d, not %d", len(x.l), x.l[:min(len(x.l), 4)], got, x.want)
		}
	}
	if got := ratio.Add(); got != 0 {
		t.Error("Add of none:", got)
	}
}

func TestMul(t *testing.T) {
	for _, x := range []struct {
		l    []int
		want int
	}{
		{nil, 1}, {[]int{}, 1}, {[]int{0}, 0}, {[]int{5}, 5}, {[]int{2, 3, 4}, 24}, {[]int{1, 7, 1}, 7},
		{[]int{-1}, 0}, {[]int{-5, 3}, 0}, {[]int{3, -5}, 0}, {[]int{-3, -5}, 0}, {[]int{math.MinInt, 8}, 0}, {[]int{math.MinInt, -1}, 0},
		{[]int{most - 1}, most - 1}, {[]int{most}, most}, {[]int{most + 1}, most}, {[]int{math.MaxInt}, most},
		{[]int{most - 1, 1}, most - 1}, {[]int{most, 1, 1}, most}, {[]int{1, math.MaxInt}, most},
		// Products just below, at and above the bound.
		{[]int{1<<25 - 1, 1<<25 + 1}, most - 1}, {[]int{1 << 25, 1 << 25}, most}, {[]int{1<<25 + 1, 1 << 25}, most},
		{[]int{most / 2, 2}, most}, {[]int{most/2 - 1, 2}, most - 2}, {[]int{most/2 + 1, 2}, most},
		{[]int{3, most / 3}, most - 1}, {[]int{3, most/3 + 1}, most}, {[]int{1 << 30, 1 << 30}, most},
		// Products that are small numbers or below 0, if they go round.
		{[]int{1 << 32, 1 << 32}, most}, {[]int{1 << 31, 1<<33 + 1}, most}, {[]int{1 << 32, 1 << 31}, most}, {[]int{most, most}, most}, {[]int{math.MaxInt, math.MaxInt}, most},
		// A 0 among others that together are above the bound.
		{[]int{0, most, most}, 0}, {[]int{most, 0, most}, 0}, {[]int{most, most, 0}, 0}, {[]int{4, 0, 5}, 0}, {[]int{math.MaxInt, math.MaxInt, -1}, 0},
		{slices.Repeat([]int{2}, 49), most / 2}, {slices.Repeat([]int{2}, 50), most}, {slices.Repeat([]int{2}, 64), most}, {slices.Repeat([]int{1}, 1000), 1},
	} {
		if got := ratio.Mul(x.l...); got != x.want {
			t.Errorf("Mul(%d numbers, %v ..): %d, not %d", len(x.l), x.l[:min(len(x.l), 4)], got, x.want)
		}
	}
	if got := ratio.Mul(); got != 1 {
		t.Error("Mul of none:", got)
	}
}

func TestAddMulAll(t *testing.T) {
	check := func(l ...int) {
		if got, want := ratio.Add(l...), sumOf(l...); got != want {
			t.Errorf("Add(%v): %d, not %d", l, got, want)
		}
		if got, want := ratio.Mul(l...), productOf(l...); got != want {
			t.Errorf("Mul(%v): %d, not %d", l, got, want)
		}
	}
	for _, a := range someInts {
		check(a)
		for _, b := range someInts {
			check(a, b)
			for _, c := range someInts {
				check(a, b, c)
			}
		}
	}
}

func TestDownUp(t *testing.T) {
	for _, x := range []struct{ a, b, down, up int }{
		{7, 2, 3, 4}, {8, 2, 4, 4}, {9, 2, 4, 5}, {1, 2, 0, 1}, {2, 3, 0, 1}, {3, 3, 1, 1}, {4, 3, 1, 2}, {0, 5, 0, 0}, {5, 1, 5, 5},
		// b counts as 1, if it counts as 0.
		{5, 0, 5, 5}, {0, 0, 0, 0}, {5, -1, 5, 5}, {5, -3, 5, 5}, {5, math.MinInt, 5, 5}, {0, -1, 0, 0}, {math.MaxInt, 0, most, most},
		// a below 0.
		{-1, 2, 0, 0}, {-7, 2, 0, 0}, {-7, -2, 0, 0}, {math.MinInt, -1, 0, 0}, {math.MinInt, 1, 0, 0}, {math.MinInt, math.MaxInt, 0, 0},
		// Numbers at and above the bound.
		{most, 1, most, most}, {most + 1, 1, most, most}, {math.MaxInt, 1, most, most}, {most - 1, most, 0, 1}, {most, most - 1, 1, 2},
		{most, most, 1, 1}, {most + 1, most, 1, 1}, {2 * most, most, 1, 1}, {most, most + 1, 1, 1}, {most, 2 * most, 1, 1}, {most - 1, most + 1, 0, 1},
		{math.MaxInt, math.MaxInt, 1, 1}, {1, math.MaxInt, 0, 1}, {most, 3, most / 3, most/3 + 1}, {1 << 60, 2, most / 2, most / 2},
		{math.MaxInt, 2, most / 2, most / 2},
	} {
		if down, up := ratio.Down(x.a, x.b), ratio.Up(x.a, x.b); down != x.down || up != x.up {
			t.Errorf("%d by %d: %d and %d, not %d and %d", x.a, x.b, down, up, x.down, x.up)
		}
	}
}

func TestDownUpAll(t *testing.T) {
	eachPair(func(a, b int) {
		down, up := partsOf(a, b)
		if got := ratio.Down(a, b); got != down {
			t.Errorf("Down(%d, %d): %d, not %d", a, b, got, down)
		}
		if got := ratio.Up(a, b); got != up {
			t.Errorf("Up(%d, %d): %d, not %d", a, b, got, up)
		}
	})
}

func TestLeast(t *testing.T) {
	for _, x := range []struct{ total, share, want int }{
		{100, 7, 15}, {100, 100, 1}, {100, 99, 2}, {100, 101, 1}, {100, 50, 2}, {100, 49, 3}, {100, 1, 100}, {1, 1, 1}, {7, 2, 4}, {8, 2, 4},
		// A share of 0, or below.
		{1, 0, 0}, {100, 0, 0}, {1, -1, 0}, {100, math.MinInt, 0}, {math.MaxInt, 0, 0}, {most, -1, 0},
		// A total of 0, or below.
		{0, 0, 1}, {0, 1, 1}, {0, -1, 1}, {-1, 0, 1}, {-1, -1, 1}, {math.MinInt, math.MinInt, 1}, {0, math.MaxInt, 1}, {math.MinInt, 5, 1},
		// Numbers at and above the bound.
		{most, 1, most}, {math.MaxInt, 1, most}, {most - 1, 1, most - 1}, {most, most, 1}, {most, most - 1, 2}, {most + 1, most, 1}, {most, most + 1, 1},
		{math.MaxInt, math.MaxInt, 1}, {most, 2, most / 2}, {most - 1, 2, most / 2}, {most, 3, most/3 + 1}, {1 << 60, 1 << 49, 2},
	} {
		if got := ratio.Least(x.total, x.share); got != x.want {
			t.Errorf("Least(%d, %d): %d, not %d", x.total, x.share, got, x.want)
		}
	}
}

func TestLeastOneByOne(t *testing.T) {
	for total := -3; total <= 80; total++ {
		for share := -3; share <= 90; share++ {
			want := 0
			for k := 1; k <= 100 && want == 0; k++ {
				if _, up := partsOf(total, k); up <= int(counts(share).Int64()) {
					want = k
				}
			}
			if got := ratio.Least(total, share); got != want {
				t.Errorf("Least(%d, %d): %d, not %d", total, share, got, want)
			}
		}
	}
}

func TestLeastAll(t *testing.T) {
	eachPair(func(total, share int) {
		k, part := ratio.Least(total, share), int(counts(share).Int64())
		if k == 0 {
			// The more parts, the less each: if that of the most parts is too much, all are.
			if _, up := partsOf(total, math.MaxInt); up <= part {
				t.Errorf("Least(%d, %d): 0, but there is one", total, share)
			}
			return
		}
		if k < 0 {
			t.Errorf("Least(%d, %d): %d", total, share, k)
			return
		}
		if _, up := partsOf(total, k); up > part {
			t.Errorf("Least(%d, %d): %d parts are too much", total, share, k)
		}
		if _, up := partsOf(total, k-1); k > 1 && up <= part {
			t.Errorf("Least(%d, %d): %d isn't the least", total, share, k)
		}
	})
}

// eachPair calls f with each two of someInts, and with small numbers.
func eachPair(f func(a, b int)) {
	for _, a := range someInts {
		for _, b := range someInts {
			f(a, b)
		}
	}
	for a := -3; a <= 60; a++ {
		for b := -3; b <= 60; b++ {
			f(a, b)
		}
	}
}

func TestOrderIsTheSame(t *testing.T) {
	for _, l := range [][]int{
		{1, 2, 3, 4}, {0, most, most, 3}, {-1, math.MaxInt, 1 << 25, 1 << 26}, {1 << 25, 1 << 25, 2, 0}, {1 << 20, 1 << 15, 1 << 14, 2},
		{1 << 20, 1 << 15, 1 << 15, 1}, {most - 3, 1, 1, 1}, {most - 2, 1, 1, 1}, {math.MinInt, math.MaxInt, most, -most}, {3, 5, most / 15, 1},
		{3, 5, most/15 + 1, 1}, {1 << 32, 1 << 32, 1 << 32, 1},
	} {
		sum, product := sumOf(l...), productOf(l...)
		eachOrder(l, 0, func(m []int) {
			if got := ratio.Add(m...); got != sum {
				t.Errorf("Add(%v): %d, not %d", m, got, sum)
			}
			if got := ratio.Mul(m...); got != product {
				t.Errorf("Mul(%v): %d, not %d", m, got, product)
			}
		})
	}
}

// eachOrder calls f with the numbers of l in each order of those from i on.
func eachOrder(l []int, i int, f func([]int)) {
	if i == len(l) {
		f(l)
		return
	}
	for j := i; j < len(l); j++ {
		l[i], l[j] = l[j], l[i]
		eachOrder(l, i+1, f)
		l[i], l[j] = l[j], l[i]
	}
}

func TestPartsTimesB(t *testing.T) {
	eachPair(func(a, b int) {
		down, up := ratio.Down(a, b), ratio.Up(a, b)
		if up != down && up != down+1 {
			t.Errorf("Up(%d, %d) is %d, Down %d", a, b, up, down)
		}
		d := counts(b)
		if d.Sign() == 0 {
			d.SetInt64(1)
		}
		low := new(big.Int).Mul(big.NewInt(int64(down)), d)
		high := new(big.Int).Mul(big.NewInt(int64(up)), d)
		if low.Cmp(counts(a)) > 0 || high.Cmp(counts(a)) < 0 {
			t.Errorf("%d by %d: %d and %d times that isn't around it", a, b, down, up)
		}
		if high.Cmp(big.NewInt(most)) > 0 { // a product is above the bound
			return
		}
		if n := int(counts(a).Int64()); ratio.Mul(down, int(d.Int64())) > n || ratio.Mul(up, int(d.Int64())) < n {
			t.Errorf("%d by %d: Mul of %d and of %d with that isn't around it", a, b, down, up)
		}
	})
}

func TestNothingHandedInIsChanged(t *testing.T) {
	want := []int{-5, 3, math.MaxInt, 0, most + 1, math.MinInt}
	l := slices.Clone(want)
	ratio.Add(l...)
	ratio.Mul(l...)
	if !slices.Equal(l, want) {
		t.Error("an argument is changed:", l)
	}
}
