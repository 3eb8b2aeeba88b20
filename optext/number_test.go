package optext_test

import (
	"math"
	"math/big"
	"strings"
	"testing"

	"quitrent/api"
	"quitrent/optext"
)

// checkNumber holds Number against what it should answer.
func checkNumber(t *testing.T, s string, low, high int) api.Errno {
	t.Helper()
	want, wantErr := numberOf(s, low, high)
	n, err := optext.Number(s, low, high)
	if n != want || err != wantErr {
		t.Errorf("Number(%.60q, %d, %d) = %d, %d, want %d, %d", s, low, high, n, err, want, wantErr)
	}
	return err
}

// P28.1: the texts of numbers.
func TestDigits(t *testing.T) {
	for _, x := range []struct {
		n    int
		want string
	}{
		{0, "0"}, {1, "1"}, {-1, "-1"}, {9, "9"}, {10, "10"}, {-10, "-10"}, {100, "100"}, {-7050, "-7050"},
		{least, "-2147483648"}, {great, "2147483647"}, {most, "4294967295"}, {most + 1, "4294967296"},
		{math.MaxInt, "9223372036854775807"}, {math.MinInt, "-9223372036854775808"}, {math.MinInt + 1, "-9223372036854775807"},
	} {
		if s := optext.Digits(x.n); s != x.want {
			t.Errorf("Digits(%d) = %q, want %q", x.n, s, x.want)
		}
	}
}

// ends are numbers about each power of two and of ten, above 0 and below.
func ends() []int {
	var l []int
	add := func(n int) {
		for d := -2; d <= 2; d++ {
			l = append(l, n+d, -(n + d))
		}
	}
	for i := range 63 {
		add(1 << i)
	}
	for n := 1; n < math.MaxInt/10; n *= 10 {
		add(n)
	}
	return append(l, math.MaxInt, math.MinInt, math.MinInt+1, math.MaxInt-1)
}

// P28.1: each number's text is its decimal digits, and read as that number wherever it may lie.
func TestThereAndBack(t *testing.T) {
	for _, n := range append(ends(), far...) {
		s := optext.Digits(n)
		if want := big.NewInt(int64(n)).String(); s != want {
			t.Errorf("Digits(%d) = %q", n, s)
		}
		for _, x := range [][2]int{{n, n}, {math.MinInt, math.MaxInt}, {n, math.MaxInt}, {math.MinInt, n}, {min(n, 0), max(n, 0)}} {
			if back, err := optext.Number(s, x[0], x[1]); back != n || err != api.OK {
				t.Errorf("Number(%q, %d, %d) = %d, %d", s, x[0], x[1], back, err)
			}
		}
	}
}

// P28.1: one below the least and one above the greatest is out of range.
func TestNumberEnds(t *testing.T) {
	for _, x := range [][2]int{{0, 0}, {0, 1}, {-5, 5}, {10, 20}, {-20, -10}, {least, great}, {0, most}, {99, 100}, {-1 << 62, 1 << 62}} {
		low, high := x[0], x[1]
		for _, n := range []int{low, low + 1, high - 1, high} {
			if got, err := optext.Number(optext.Digits(n), low, high); low <= n && n <= high && (got != n || err != api.OK) {
				t.Errorf("%d of %v: %d, %d", n, x, got, err)
			}
		}
		for _, n := range []int{low - 1, low - 2, high + 1, high + 2, math.MinInt, math.MaxInt} {
			if got, err := optext.Number(optext.Digits(n), low, high); got != 0 || err != api.ErrRange {
				t.Errorf("%d of %v: %d, %d", n, x, got, err)
			}
		}
	}
}

// P28.1: where the least that may be is above the greatest, no number lies within.
func TestNumberOfNone(t *testing.T) {
	for _, s := range []string{"0", "1", "-1", "5", "9223372036854775807"} {
		for _, x := range [][2]int{{1, 0}, {5, 4}, {0, -1}, {1, -1}, {math.MaxInt, math.MinInt}} {
			if n, err := optext.Number(s, x[0], x[1]); n != 0 || err != api.ErrRange {
				t.Errorf("%q of %v: %d, %d", s, x, n, err)
			}
		}
	}
	if n, err := optext.Number("01", 1, 0); n != 0 || err != api.ErrForm {
		t.Errorf("01 of none: %d, %d", n, err)
	}
}

// P28.1: no other text is read, whatever number might be meant, and wherever that would lie.
func TestNoNumbers(t *testing.T) {
	for _, s := range wrongNumbers {
		for _, x := range [][2]int{{math.MinInt, math.MaxInt}, {-5, 5}, {100, 200}, {1, 0}} {
			if n, err := optext.Number(s, x[0], x[1]); n != 0 || err != api.ErrForm {
				t.Errorf("Number(%q, %d, %d) = %d, %d", s, x[0], x[1], n, err)
			}
		}
	}
}

// P28.1: all texts of up to two bytes.
func TestShortTexts(t *testing.T) {
	met := 0
	for a := range 256 {
		if checkNumber(t, string([]byte{byte(a)}), -99, 99) == api.OK {
			met++
		}
		for b := range 256 {
			if checkNumber(t, string([]byte{byte(a), byte(b)}), -99, 99) == api.OK {
				met++
			}
		}
	}
	if met != 10+90+9 {
		t.Errorf("%d numbers", met)
	}
}

// P28.1: a byte that is no digit is told at each place, behind however many digits.
func TestOneWrongByte(t *testing.T) {
	for _, digits := range []string{"1234567890", "-1234567890", strings.Repeat("7", 25), "-" + strings.Repeat("9", 40)} {
		for i := range len(digits) + 1 {
			for _, wrong := range []string{"-", "+", "a", " ", "/", ":", "\n", "_", ".", "\x00", "\x80", "٣"} {
				if i == 0 && wrong == "-" && digits[0] != '-' {
					continue
				}
				s := digits[:i] + wrong + digits[i:]
				if n, err := optext.Number(s, math.MinInt, math.MaxInt); n != 0 || err != api.ErrForm {
					t.Errorf("Number(%q) = %d, %d", s, n, err)
				}
			}
		}
	}
}

// P28.1: a number that is far away is one all the same, however many digits there are; some of these would be near, if they went round.
func TestFarTexts(t *testing.T) {
	var texts []string
	for _, bits := range []uint{32, 63, 64, 65, 96, 128, 1000} {
		for d := -3; d <= 3; d++ {
			n := new(big.Int).Lsh(big.NewInt(1), bits)
			n.Add(n, big.NewInt(int64(d)))
			texts = append(texts, n.String(), n.Neg(n).String())
		}
	}
	for _, many := range []int{19, 20, 21, 22, 100, 4096} {
		texts = append(texts, strings.Repeat("9", many), "-"+strings.Repeat("9", many), "1"+strings.Repeat("0", many), "-1"+strings.Repeat("0", many))
	}
	met := 0
	for _, s := range texts {
		for _, x := range [][2]int{{math.MinInt, math.MaxInt}, {least, great}, {0, most}, {-5, 5}, {0, 0}, {math.MinInt, math.MinInt}, {math.MaxInt, math.MaxInt}} {
			if checkNumber(t, s, x[0], x[1]) == api.ErrRange {
				met++
			}
		}
	}
	if met < len(texts)*5 {
		t.Errorf("%d of %d out of range: that tells too little", met, len(texts))
	}
}

// P28.1: a million digits are a number's text; with a nought ahead, or a letter behind, they are none's.
func TestMillionDigits(t *testing.T) {
	many := strings.Repeat("1", 1000000)
	for _, x := range []struct {
		s    string
		want api.Errno
	}{
		{many, api.ErrRange}, {"-" + many, api.ErrRange}, {strings.Repeat("10", 500000), api.ErrRange},
		{"0" + many, api.ErrForm}, {"-0" + many, api.ErrForm}, {many + "x", api.ErrForm}, {many + "-", api.ErrForm}, {"--" + many, api.ErrForm}, {"+" + many, api.ErrForm},
		{strings.Repeat("0", 1000000), api.ErrForm}, {strings.Repeat("-", 1000000), api.ErrForm},
	} {
		if n, err := optext.Number(x.s, math.MinInt, math.MaxInt); n != 0 || err != x.want {
			t.Errorf("%.5q and so on: %d, %d, want %d", x.s, n, err, x.want)
		}
	}
}

// P28.1: any texts of what numbers are made of.
func TestAnyTexts(t *testing.T) {
	const bytes = "0123456789012345678901234567890123456789--+ ."
	next := chance(28)
	met := map[api.Errno]int{}
	for range 20000 {
		b := make([]byte, 1+next(12))
		for i := range b {
			b[i] = bytes[next(len(bytes))]
		}
		if next(4) == 0 {
			b[0] = '-'
		}
		low := next(2000) - 1000
		met[checkNumber(t, string(b), -1<<uint(next(40))+low, 1<<uint(next(40))+low)]++
	}
	if met[api.OK] < 1000 || met[api.ErrForm] < 1000 || met[api.ErrRange] < 1000 {
		t.Errorf("%v: that tells too little", met)
	}
}
