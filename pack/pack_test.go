package pack_test

import (
	"math"
	"slices"
	"testing"

	"quitrent/api"
	"quitrent/pack"
)

const all = math.MaxUint32

// someWords are words of which each bit is 0 in one and 1 in another, and ends of what a word may be.
var someWords = []uint32{0, 1, 2, 291, 4080, 65535, 65536, 0x55555555, 0xaaaaaaaa, 0x12345678, 0x7fffffff, 0x80000000, 0x80000001, 0xdeadbeef, all - 1, all}

// noPieces are places and numbers of bits at which a word has no piece.
var noPieces = []struct{ at, n int }{
	{-1, 1}, {-1, 2}, {-1, 33}, {-32, 32}, {math.MinInt, 1}, {math.MinInt, 32},
	{0, 0}, {5, 0}, {32, 0}, {0, -1}, {4, -4}, {33, -1}, {0, math.MinInt},
	{0, 33}, {0, 64}, {0, math.MaxInt}, {-1, math.MaxInt},
	{1, 32}, {2, 31}, {16, 17}, {30, 3}, {31, 2}, {32, 1}, {33, 1},
	{math.MaxInt, 1}, {math.MaxInt, 32}, {math.MaxInt - 31, 32}, {math.MaxInt, math.MaxInt},
}

// someWidths are widths that are right.
var someWidths = [][]int{
	nil, {}, {1}, {4}, {31}, {32}, {1, 1}, {4, 4, 4}, {1, 31}, {31, 1}, {16, 16}, {3, 12, 17}, {2, 2, 1, 1, 1, 1, 20}, {8, 8, 8, 8},
	slices.Repeat([]int{1}, 32),
}

// wrongWidths are widths that are not right.
var wrongWidths = [][]int{
	{0}, {-1}, {33}, {math.MinInt}, {math.MaxInt},
	{4, 0}, {0, 4}, {4, -1, 4}, {-4, 8}, {33, -1}, {32, 0}, {64, -32},
	{32, 1}, {1, 32}, {16, 17}, {8, 8, 8, 8, 1}, {32, 32},
	{math.MaxInt, math.MaxInt}, {math.MaxInt, math.MaxInt, 2}, {32, math.MaxInt - 31},
	slices.Repeat([]int{1}, 33),
}

// power answers 2^n, or the greatest number where that is more than 64 bits hold.
func power(n int) uint64 {
	p := uint64(1)
	for range n {
		if p > math.MaxUint64/2 {
			return math.MaxUint64
		}
		p *= 2
	}
	return p
}

// bit answers a word's bit, reckoned by halves alone.
func bit(w uint32, i int) uint32 {
	for range i {
		w /= 2
	}
	return w % 2
}

// piece answers a piece's number, bit by bit.
func piece(w uint32, at, n int) uint32 {
	v := uint32(0)
	for i := n - 1; i >= 0; i-- {
		v = 2*v + bit(w, at+i)
	}
	return v
}

// eachPiece calls f with each piece that a word has.
func eachPiece(f func(at, n int)) {
	for n := 1; n <= 32; n++ {
		for at := 0; at+n <= 32; at++ {
			f(at, n)
		}
	}
}

// numbersOf answers numbers that fit n bits, n from 1 to 32: both ends and some between.
func numbersOf(n int) []uint32 {
	top := uint32(power(n) - 1)
	return []uint32{0, 1, top / 3, top / 2, top - 1, top}
}

func TestFits(t *testing.T) {
	for n := -3; n <= 70; n++ {
		for _, v := range someWords {
			if want := uint64(v) < power(n); pack.Fits(v, n) != want {
				t.Errorf("Fits(%d, %d) is not %v", v, n, want)
			}
		}
	}
	for n := 1; n < 32; n++ {
		if top := uint32(power(n)); !pack.Fits(top-1, n) || pack.Fits(top, n) {
			t.Errorf("Fits at 2^%d", n)
		}
	}
}

func TestFitsFarEnds(t *testing.T) {
	for _, n := range []int{math.MinInt, math.MinInt + 32, -64, -33, -32, -31, -1, 0} {
		if !pack.Fits(0, n) || pack.Fits(1, n) || pack.Fits(all, n) {
			t.Errorf("Fits with n %d: 0 alone fits", n)
		}
	}
	for _, n := range []int{32, 33, 63, 64, 65, 1 << 32, 1<<32 + 1, math.MaxInt} {
		if !pack.Fits(0, n) || !pack.Fits(1, n) || !pack.Fits(all, n) {
			t.Errorf("Fits with n %d: each number fits", n)
		}
	}
}

func TestGet(t *testing.T) {
	eachPiece(func(at, n int) {
		for _, w := range someWords {
			if got, want := pack.Get(w, at, n), piece(w, at, n); got != want {
				t.Errorf("Get(%d, %d, %d): %d, not %d", w, at, n, got, want)
			}
		}
	})
}

func TestGetNoPiece(t *testing.T) {
	for _, p := range noPieces {
		for _, w := range someWords {
			if got := pack.Get(w, p.at, p.n); got != 0 {
				t.Errorf("Get(%d, %d, %d): %d, not 0", w, p.at, p.n, got)
			}
		}
	}
}

func TestPut(t *testing.T) {
	for _, x := range []struct {
		w     uint32
		at, n int
		v     uint32
		want  uint32
	}{
		{0, 4, 8, 255, 4080},
		{65535, 4, 4, 0, 65295},
		{65535, 4, 4, 6, 65391},
		{0, 0, 1, 1, 1},
		{all, 0, 1, 0, all - 1},
		{0, 31, 1, 1, 1 << 31},
		{all, 31, 1, 0, math.MaxInt32},
		{0, 0, 32, all, all},
		{all, 0, 32, 0, 0},
		{all, 0, 32, 291, 291},
	} {
		if got, err := pack.Put(x.w, x.at, x.n, x.v); got != x.want || err != api.OK {
			t.Errorf("Put(%d, %d, %d, %d): %d, %d, not %d", x.w, x.at, x.n, x.v, got, err, x.want)
		}
	}
}

func TestPutNoPiece(t *testing.T) {
	for _, p := range noPieces {
		for _, v := range []uint32{0, 1, all} { // all fits few of them: ErrArg is named first
			if got, err := pack.Put(all, p.at, p.n, v); got != 0 || err != api.ErrArg {
				t.Errorf("Put(.., %d, %d, %d): %d, %d, not ErrArg", p.at, p.n, v, got, err)
			}
		}
	}
}

func TestPutTooGreat(t *testing.T) {
	eachPiece(func(at, n int) {
		if n == 32 { // each number fits
			return
		}
		for _, v := range []uint32{uint32(power(n)), all} {
			if got, err := pack.Put(all, at, n, v); got != 0 || err != api.ErrRange {
				t.Errorf("Put(.., %d, %d, %d): %d, %d, not ErrRange", at, n, v, got, err)
			}
		}
	})
}

func TestOnes(t *testing.T) {
	for _, w := range someWords {
		want := 0
		for i := range 32 {
			want += int(bit(w, i))
		}
		if got := pack.Ones(w); got != want {
			t.Errorf("Ones(%d): %d, not %d", w, got, want)
		}
	}
	for i := range 32 {
		if pack.Ones(1<<i) != 1 || pack.Ones(all-1<<i) != 31 {
			t.Errorf("Ones of bit %d alone, or of all but that", i)
		}
	}
	if pack.Ones(0) != 0 || pack.Ones(all) != 32 || pack.Ones(4080) != 8 {
		t.Error("Ones of 0, of all, of 4080")
	}
}

func TestSplit(t *testing.T) {
	for _, x := range []struct {
		w      uint32
		widths []int
		want   []uint32
	}{
		{291, []int{4, 4, 4}, []uint32{3, 2, 1}},
		{291, []int{4, 4, 4, 20}, []uint32{3, 2, 1, 0}},
		{291, []int{9}, []uint32{291}},
		{5, []int{1, 1, 1}, []uint32{1, 0, 1}},
		{15, []int{4}, []uint32{15}},
		{all, []int{32}, []uint32{all}},
		{all, []int{1, 31}, []uint32{1, math.MaxInt32}},
		{all, []int{31, 1}, []uint32{math.MaxInt32, 1}},
		{1 << 31, []int{16, 15, 1}, []uint32{0, 0, 1}},
		{0, []int{1, 2}, []uint32{0, 0}},
		{0, nil, nil},
		{0, []int{}, []uint32{}},
	} {
		if got, err := pack.Split(x.w, x.widths...); !slices.Equal(got, x.want) || err != api.OK {
			t.Errorf("Split(%d, %v): %v, %d, not %v", x.w, x.widths, got, err, x.want)
		}
	}
}

func TestSplitWrongWidths(t *testing.T) {
	for _, widths := range wrongWidths {
		for _, w := range []uint32{0, 1, all} { // a bit of all is above many of them: ErrArg is named first
			if got, err := pack.Split(w, widths...); len(got) != 0 || err != api.ErrArg {
				t.Errorf("Split(%d, %v): %v, %d, not ErrArg", w, widths, got, err)
			}
		}
	}
}

func TestSplitBitAbove(t *testing.T) {
	for _, widths := range someWidths {
		sum := 0
		for _, n := range widths {
			sum += n
		}
		for i := sum; i < 32; i++ {
			if got, err := pack.Split(1<<i, widths...); len(got) != 0 || err != api.ErrRange {
				t.Errorf("Split(2^%d, %v): %v, %d, not ErrRange", i, widths, got, err)
			}
		}
		if sum == 32 {
			continue
		}
		if got, err := pack.Split(all, widths...); len(got) != 0 || err != api.ErrRange {
			t.Errorf("Split of all ones, %v: %v, %d, not ErrRange", widths, got, err)
		}
	}
}

func TestJoin(t *testing.T) {
	for _, x := range []struct {
		l      []uint32
		widths []int
		want   uint32
	}{
		{[]uint32{3, 2, 1}, []int{4, 4, 4}, 291},
		{[]uint32{3, 2, 1, 0}, []int{4, 4, 4, 20}, 291},
		{[]uint32{1, 0, 1}, []int{1, 1, 1}, 5},
		{[]uint32{0, 255}, []int{4, 8}, 4080},
		{[]uint32{all}, []int{32}, all},
		{[]uint32{1, math.MaxInt32}, []int{1, 31}, all},
		{[]uint32{math.MaxInt32, 1}, []int{31, 1}, all},
		{[]uint32{0, 0, 1}, []int{16, 15, 1}, 1 << 31},
		{nil, nil, 0},
		{[]uint32{}, []int{}, 0},
		{nil, []int{}, 0},
	} {
		if got, err := pack.Join(x.l, x.widths...); got != x.want || err != api.OK {
			t.Errorf("Join(%v, %v): %d, %d, not %d", x.l, x.widths, got, err, x.want)
		}
	}
}

func TestJoinWrongWidths(t *testing.T) {
	for _, widths := range wrongWidths {
		for _, v := range []uint32{0, all} { // all fits few of them: ErrArg is named first
			l := slices.Repeat([]uint32{v}, len(widths))
			if got, err := pack.Join(l, widths...); got != 0 || err != api.ErrArg {
				t.Errorf("Join(%v, %v): %d, %d, not ErrArg", l, widths, got, err)
			}
		}
		if got, err := pack.Join(nil, widths...); got != 0 || err != api.ErrArg {
			t.Errorf("Join of none, %v: %d, %d, not ErrArg", widths, got, err)
		}
	}
}

func TestJoinOtherManyNumbers(t *testing.T) {
	for _, widths := range someWidths {
		for _, v := range []uint32{0, 1, all} { // where v fits no width, ErrArg is still named first
			for _, n := range []int{0, len(widths) - 1, len(widths) + 1, len(widths) + 9} {
				if n < 0 || n == len(widths) {
					continue
				}
				l := slices.Repeat([]uint32{v}, n)
				if got, err := pack.Join(l, widths...); got != 0 || err != api.ErrArg {
					t.Errorf("Join(%v, %v): %d, %d, not ErrArg", l, widths, got, err)
				}
			}
		}
	}
}

func TestJoinTooGreat(t *testing.T) {
	if got, err := pack.Join([]uint32{16}, 4); got != 0 || err != api.ErrRange {
		t.Error("Join of 16 in 4 bits:", got, err)
	}
	for _, widths := range someWidths {
		for i, n := range widths {
			if n == 32 { // each number fits
				continue
			}
			l := slices.Repeat([]uint32{1}, len(widths))
			l[i] = uint32(power(n))
			if got, err := pack.Join(l, widths...); got != 0 || err != api.ErrRange {
				t.Errorf("Join(%v, %v): %d, %d, not ErrRange", l, widths, got, err)
			}
		}
	}
}

func TestPutIsGot(t *testing.T) {
	eachPiece(func(at, n int) {
		for _, w := range someWords {
			for _, v := range numbersOf(n) {
				checkPut(t, w, at, n, v)
			}
		}
	})
}

// checkPut tells where what is put isn't got, or a bit outside of the piece is changed.
func checkPut(t *testing.T, w uint32, at, n int, v uint32) {
	t.Helper()
	got, err := pack.Put(w, at, n, v)
	if err != api.OK || pack.Get(got, at, n) != v {
		t.Errorf("Put(%d, %d, %d, %d): %d, %d: not got again", w, at, n, v, got, err)
	}
	for i := range 32 {
		if (i < at || i >= at+n) && bit(got, i) != bit(w, i) {
			t.Errorf("Put(%d, %d, %d, %d): %d: bit %d is changed", w, at, n, v, got, i)
		}
	}
}

func TestSplitIsJoined(t *testing.T) {
	for _, widths := range someWidths {
		for _, w := range someWords {
			sum := 0
			var want []uint32
			for _, n := range widths {
				want = append(want, piece(w, sum, n))
				sum += n
			}
			w = uint32(uint64(w) % power(sum))
			l, err := pack.Split(w, widths...)
			if err != api.OK || !slices.Equal(l, want) {
				t.Errorf("Split(%d, %v): %v, %d, not %v", w, widths, l, err, want)
			}
			if got, err := pack.Join(l, widths...); err != api.OK || got != w {
				t.Errorf("Join(%v, %v): %d, %d, not %d", l, widths, got, err, w)
			}
		}
	}
}

func TestJoinedIsSplit(t *testing.T) {
	for _, widths := range someWidths {
		for which := range 6 {
			var l []uint32
			for i, n := range widths {
				l = append(l, numbersOf(n)[(which+i)%6])
			}
			w, err := pack.Join(l, widths...)
			if err != api.OK {
				t.Errorf("Join(%v, %v): %d", l, widths, err)
			}
			if got, err := pack.Split(w, widths...); err != api.OK || !slices.Equal(got, l) {
				t.Errorf("Split(%d, %v): %v, %d, not %v", w, widths, got, err, l)
			}
		}
	}
}

func TestNothingHandedInIsChanged(t *testing.T) {
	l, widths := []uint32{3, 2, 1}, []int{4, 4, 4}
	w, _ := pack.Join(l, widths...)
	got, _ := pack.Split(w, widths...)
	if !slices.Equal(l, []uint32{3, 2, 1}) || !slices.Equal(widths, []int{4, 4, 4}) {
		t.Error("an argument is changed:", l, widths)
	}
	if len(got) != 3 {
		t.Fatal("Split:", got)
	}
	got[0] = 9
	if again, _ := pack.Split(w, widths...); !slices.Equal(again, []uint32{3, 2, 1}) || l[0] != 3 {
		t.Error("an answer's memory isn't its own:", again, l)
	}
}
