package optext_test

import (
	"testing"

	"quitrent/api"
	"quitrent/op"
	"quitrent/optext"
)

// thereAndBack looks whether a script is parsed as it was printed, and printed as it was parsed.
func thereAndBack(t *testing.T, x optext.Script) {
	t.Helper()
	s, f := optext.Print(x)
	if f != (optext.Fault{}) {
		t.Fatalf("Print(%v): %v", x, f)
	}
	want := optext.Script{Conf: x.Conf}
	for _, o := range x.Ops {
		want.Ops = append(want.Ops, op.Bare(o))
	}
	back, f := optext.Parse(s)
	if !alike(back, want) || f != (optext.Fault{}) {
		t.Fatalf("Parse(%.200q) = %v, %v, want %v", s, back, f, want)
	}
	if again, f := optext.Print(back); again != s || f != (optext.Fault{}) {
		t.Fatalf("%.200q, %v, want %.200q", again, f, s)
	}
}

// P28.5: of any scripts, with what kinds don't need, up to the most operations.
func TestScriptsThereAndBack(t *testing.T) {
	next := chance(285)
	for i := range 2000 {
		x := anyScript(next, i%40)
		for j := range x.Ops {
			if next(2) == 0 {
				x.Ops[j] = kinds[x.Ops[j].Kind-1].stuffed(x.Ops[j], far[next(len(far))])
			}
		}
		thereAndBack(t, x)
	}
	for _, many := range []int{0, 1, 4999, api.MaxOps} {
		thereAndBack(t, anyScript(next, many))
	}
}

// P28.5: of single operations, configurations and numbers, with each pair of numbers beside each other.
func TestLinesThereAndBack(t *testing.T) {
	for _, k := range kinds {
		for _, a := range near {
			for _, b := range near {
				o := k.stuffed(k.made([]int{a, b, max(b, 0)}), a+b)
				s, err := optext.Line(o)
				if err != api.OK {
					t.Fatalf("Line(%v): %d", o, err)
				}
				if back, err := optext.Op(s); back != op.Bare(o) || err != api.OK {
					t.Errorf("%v is %q, and that %v, %d", o, s, back, err)
				}
			}
		}
	}
	for _, a := range near {
		for _, b := range near {
			for _, c := range []api.Conf{{N: a, W: b, R: b, K: a}, {N: a, W: a, R: b, K: b}} {
				s, err := optext.Head(c)
				if err != api.OK {
					t.Fatalf("Head(%v): %d", c, err)
				}
				if back, err := optext.Conf(s); back != c || err != api.OK {
					t.Errorf("%v is %q, and that %v, %d", c, s, back, err)
				}
			}
		}
	}
}

// P28.5: whatever text is parsed is printed as the same text, so no two texts are one script's.
func TestTextsThereAndBack(t *testing.T) {
	next := chance(286)
	parsed := 0
	for range 20000 {
		s, f := optext.Print(anyScript(next, next(4)))
		if f != (optext.Fault{}) {
			t.Fatalf("%q, %v", s, f)
		}
		s = spoilt(next, s)
		x, f := optext.Parse(s)
		if f != (optext.Fault{}) {
			continue
		}
		parsed++
		if again, f := optext.Print(x); again != s || f != (optext.Fault{}) {
			t.Errorf("%q is parsed, and printed as %q, %v", s, again, f)
		}
	}
	if parsed < 1000 {
		t.Errorf("%d texts parsed: that tells too little", parsed)
	}
	for low := -3000; low <= 3000; low++ {
		s := optext.Digits(low)
		if n, err := optext.Number(s, low, low); n != low || err != api.OK || optext.Digits(n) != s {
			t.Errorf("%d is %q, and that %d, %d", low, s, n, err)
		}
	}
}
