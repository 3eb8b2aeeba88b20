package optext_test

import (
	"strconv"
	"strings"
	"testing"

	"quitrent/api"
	"quitrent/op"
	"quitrent/optext"
)

// checkOp holds Op against what it should answer.
func checkOp(t *testing.T, s string) api.Errno {
	t.Helper()
	want, wantErr := opOf(s)
	o, err := optext.Op(s)
	if o != want || err != wantErr {
		t.Errorf("Op(%.60q) = %v, %d, want %v, %d", s, o, err, want, wantErr)
	}
	return err
}

// noOp looks whether Op answers that error, and nothing else.
func noOp(t *testing.T, s string, want api.Errno) {
	t.Helper()
	if o, err := optext.Op(s); o != (api.Op{}) || err != want {
		t.Errorf("Op(%.60q) = %v, %d, want %d", s, o, err, want)
	}
}

// P28.2 and the chapter's examples.
func TestLineExamples(t *testing.T) {
	if s, err := optext.Line(api.Op{Kind: api.OpAlloc, A: 1, B: 2}); s != "alloc 1 2 0" || err != api.OK {
		t.Errorf("%q, %d", s, err)
	}
	noOp(t, "tick ", api.ErrForm)
	noOp(t, "drop 01", api.ErrForm)
	noOp(t, "drop 99999999999", api.ErrRange)
}

// P28.2: a line of each kind.
func TestLines(t *testing.T) {
	for _, x := range []struct {
		o    api.Op
		want string
	}{
		{api.Op{Kind: api.OpAlloc, A: 3, B: 4, C: 5}, "alloc 3 4 5"},
		{api.Op{Kind: api.OpLoad, A: 1, B: 2, C: 30}, "load 1 2 30"},
		{api.Op{Kind: api.OpStore, A: 7, B: 0, C: -1}, "store 7 0 -1"},
		{api.Op{Kind: api.OpRead, A: 0, B: 12}, "read 0 12"},
		{api.Op{Kind: api.OpWrite, A: 1, B: 2, V: most}, "write 1 2 4294967295"},
		{api.Op{Kind: api.OpCopy, A: 9, B: 8}, "copy 9 8"},
		{api.Op{Kind: api.OpDrop, A: -70}, "drop -70"},
		{api.Op{Kind: api.OpSame, A: 2, B: 1}, "same 2 1"},
		{api.Op{Kind: api.OpLen, A: 4095}, "len 4095"},
		{api.Op{Kind: api.OpTick}, "tick"},
	} {
		if s, err := optext.Line(x.o); s != x.want || err != api.OK {
			t.Errorf("Line(%v) = %q, %d, want %q", x.o, s, err, x.want)
		}
		if o, err := optext.Op(x.want); o != x.o || err != api.OK {
			t.Errorf("Op(%q) = %v, %d, want %v", x.want, o, err, x.o)
		}
	}
}

// P28.2: what these tests take for a kind's name and what it needs is what layer 22 says.
func TestKinds(t *testing.T) {
	for i, k := range kinds {
		want := api.Op{Kind: k.number, A: 1, B: 1, C: 1, V: 1}
		if k.number != i+1 || op.Name(k.number) != k.name || op.Bare(want) != k.stuffed(want, 0) {
			t.Errorf("%v: %q, %v", k, op.Name(k.number), op.Bare(want))
		}
	}
}

// P28.2: each kind with each of its numbers at each place from the least to the greatest, there and back.
func TestNearNumbers(t *testing.T) {
	for _, k := range kinds {
		for at := range len(k.needs) {
			numbers := near
			if k.needs[at] == 'V' {
				numbers = nil
				for _, v := range values {
					numbers = append(numbers, int(v))
				}
			}
			for _, n := range numbers {
				l := []int{5, 6, 7}[:len(k.needs)]
				l[at] = n
				o, want := k.made(l), line(k.name, l)
				if s, err := optext.Line(o); s != want || err != api.OK {
					t.Errorf("Line(%v) = %q, %d, want %q", o, s, err, want)
				}
				if back, err := optext.Op(want); back != o || err != api.OK {
					t.Errorf("Op(%q) = %v, %d, want %v", want, back, err, o)
				}
			}
		}
	}
}

// P28.2: one number that is needed and far away is out of range, of an operation and in a line.
func TestFarNumbers(t *testing.T) {
	met := 0
	for _, k := range kinds {
		for at := range len(k.needs) {
			low, high := k.lies(at)
			for _, n := range append([]int{-1, great + 1}, far...) {
				if low <= n && n <= high {
					continue
				}
				met++
				l := []int{5, 6, 7}[:len(k.needs)]
				l[at] = n
				noOp(t, line(k.name, l), api.ErrRange)
				// A word holds no number that is out of range.
				if k.needs[at] == 'V' {
					continue
				}
				if s, err := optext.Line(k.made(l)); s != "" || err != api.ErrRange {
					t.Errorf("Line(%v) = %q, %d", k.made(l), s, err)
				}
			}
		}
	}
	if met < 300 {
		t.Errorf("%d numbers: that tells too little", met)
	}
}

// P28.2: what a kind doesn't need isn't looked at, be it right, far away or any word.
func TestNotLookedAt(t *testing.T) {
	for _, k := range kinds {
		l := []int{5, 6, 7}[:len(k.needs)]
		o, want := k.made(l), line(k.name, l)
		for _, n := range append(append([]int{1, -1, least, great}, far...), 77) {
			if s, err := optext.Line(k.stuffed(o, n)); s != want || err != api.OK {
				t.Errorf("Line(%v) = %q, %d, want %q", k.stuffed(o, n), s, err, want)
			}
			for i := range l {
				wrong := with(o, k.needs[i], great+1)
				if k.needs[i] == 'V' {
					continue
				}
				if s, err := optext.Line(k.stuffed(wrong, n)); s != "" || err != api.ErrRange {
					t.Errorf("Line(%v) = %q, %d", k.stuffed(wrong, n), s, err)
				}
			}
		}
	}
}

// P28.2: an operation without a kind has no line, whatever its numbers are.
func TestNoKind(t *testing.T) {
	for _, n := range wrongKinds {
		for _, o := range []api.Op{{Kind: n}, {Kind: n, A: 1, B: 2, C: 3, V: 4}, {Kind: n, A: great + 1, B: least - 1, C: 1 << 62, V: most}} {
			if s, err := optext.Line(o); s != "" || err != api.ErrOp {
				t.Errorf("Line(%v) = %q, %d", o, s, err)
			}
		}
	}
}

// P28.2: the first word must be a kind's name, whatever stands behind it.
func TestWrongFirstWords(t *testing.T) {
	for _, name := range []string{"", "Alloc", "TICK", "al", "allocs", "tic", "ticks", "free", "heap", "1", "0", "-", "\ttick", "tick\t", "tick\r", "tick\n", "tick\x00", "\xff", "tíck", "load\u00a0", "drop,", "settle"} {
		for _, rest := range []string{"", " ", " 1", " 1 2", " 1 2 3", " 1 2 3 4", " x", " 01", " 99999999999", " 1 2 99999999999"} {
			noOp(t, name+rest, api.ErrForm)
		}
	}
}

// P28.2: there are just as many words as the kind needs; with more or fewer, what they are makes no difference.
func TestHowManyWords(t *testing.T) {
	for _, k := range kinds {
		for many := range 9 {
			if many == len(k.needs) {
				continue
			}
			for _, w := range []string{"1", "0", "x", "", "-", "01", "99999999999"} {
				noOp(t, k.name+strings.Repeat(" "+w, many), api.ErrForm)
			}
		}
	}
}

// P28.2: of two blanks side by side, or one at an end, there is an empty word.
func TestEmptyWords(t *testing.T) {
	for _, k := range kinds {
		right := line(k.name, []int{5, 6, 7}[:len(k.needs)])
		noOp(t, " "+right, api.ErrForm)
		noOp(t, right+" ", api.ErrForm)
		noOp(t, right+"  ", api.ErrForm)
		for i := range right {
			if right[i] == ' ' {
				noOp(t, right[:i]+" "+right[i:], api.ErrForm)
			}
		}
		// As many words as there should be, but one of them is empty.
		for i := range k.needs {
			words := strings.Split(right, " ")
			words[i+1] = ""
			noOp(t, strings.Join(words, " "), api.ErrForm)
		}
	}
	noOp(t, "", api.ErrForm)
	noOp(t, " ", api.ErrForm)
}

// P28.2: nothing but one blank parts words, and nothing stands ahead of a line or behind it.
func TestOtherBlanks(t *testing.T) {
	for _, k := range kinds {
		right := line(k.name, []int{5, 6, 7}[:len(k.needs)])
		for _, c := range []string{"\t", "\n", "\r", "\v", "\f", "\x00", ",", ";", "_", "\u00a0", "\u2003"} {
			noOp(t, c+right, api.ErrForm)
			noOp(t, right+c, api.ErrForm)
			if len(k.needs) > 0 {
				noOp(t, strings.ReplaceAll(right, " ", c), api.ErrForm)
				noOp(t, strings.Replace(right, " ", c, 1), api.ErrForm)
			}
		}
	}
}

// P28.2: a word that is no number's, at each place of each kind.
func TestWrongWords(t *testing.T) {
	for _, k := range kinds {
		for at := range len(k.needs) {
			for _, w := range wrongNumbers {
				words := []string{k.name, "5", "6", "7"}[:len(k.needs)+1]
				words[at+1] = w
				noOp(t, strings.Join(words, " "), api.ErrForm)
			}
		}
	}
}

// P28.2: of several numbers that are wrong the first one is told, of whichever error.
func TestFirstNumber(t *testing.T) {
	met := map[api.Errno]int{}
	for _, k := range kinds {
		tries := 1
		for range k.needs {
			tries *= 5
		}
		for i := range tries {
			s, rest := k.name, i
			for range k.needs {
				s += " " + []string{"1", "01", "99999999999", "-", "-99999999999"}[rest%5]
				rest /= 5
			}
			met[checkOp(t, s)]++
		}
	}
	if met[api.OK] != len(kinds) || met[api.ErrForm] < 200 || met[api.ErrRange] < 200 {
		t.Errorf("%v: that tells too little", met)
	}
	noOp(t, "alloc 99999999999 01 1", api.ErrRange)
	noOp(t, "alloc 01 99999999999 1", api.ErrForm)
	noOp(t, "write 1 99999999999 x", api.ErrRange)
	noOp(t, "write 1 x 99999999999", api.ErrForm)
	noOp(t, "write 1 2 -1", api.ErrRange)
	noOp(t, "write 1 2 4294967296", api.ErrRange)
	noOp(t, "write 1 4294967295 1", api.ErrRange)
	noOp(t, "write 1 2 -0", api.ErrForm)
	noOp(t, "load 1 2 4294967295", api.ErrRange)
}

// P28.2: very long lines, of words, of blanks and of digits.
func TestLongLines(t *testing.T) {
	many := strings.Repeat("1", 1000000)
	noOp(t, "drop "+many, api.ErrRange)
	noOp(t, "drop -"+many, api.ErrRange)
	noOp(t, "drop 0"+many, api.ErrForm)
	noOp(t, "drop"+many, api.ErrForm)
	noOp(t, "drop"+strings.Repeat(" ", 1000000), api.ErrForm)
	noOp(t, "drop"+strings.Repeat(" 1", 500000), api.ErrForm)
	noOp(t, "drop "+many+" 1", api.ErrForm)
	noOp(t, strings.Repeat(" ", 1000000), api.ErrForm)
	noOp(t, strings.Repeat("drop", 250000), api.ErrForm)
}

// P28.2: lines of all kinds with a few bytes spoilt.
func TestSpoiltLines(t *testing.T) {
	next := chance(282)
	met := map[api.Errno]int{}
	for range 30000 {
		s, err := optext.Line(anyOp(next))
		if err != api.OK {
			t.Fatalf("%q, %d", s, err)
		}
		met[checkOp(t, spoilt(next, s))]++
	}
	if met[api.OK] < 1000 || met[api.ErrForm] < 1000 || met[api.ErrRange] < 300 {
		t.Errorf("%v: that tells too little", met)
	}
}

// P28.2: any operations against their lines, of numbers at random among the near and the far ones.
func TestAnyOps(t *testing.T) {
	next := chance(281)
	met := map[api.Errno]int{}
	for range 20000 {
		k := kinds[next(len(kinds))]
		var l []int
		want := api.OK
		for i := range len(k.needs) {
			n := anyNumber(next)
			if k.needs[i] == 'V' {
				n = int(values[next(len(values))])
			} else if next(6) == 0 {
				n, want = far[next(len(far))], api.ErrRange
			}
			l = append(l, n)
		}
		text := ""
		if want == api.OK {
			text = line(k.name, l)
		}
		o := k.stuffed(k.made(l), next(1<<20)-1<<19)
		if s, err := optext.Line(o); s != text || err != want {
			t.Errorf("Line(%v) = %q, %d, want %q, %d", o, s, err, text, want)
		}
		met[want]++
	}
	if met[api.OK] < 1000 || met[api.ErrRange] < 1000 {
		t.Errorf("%v: that tells too little", met)
	}
}

// P28.2: each power of two and the number below it, above 0 and below, at each place: no number is cut to fewer bits.
func TestPowersOfTwo(t *testing.T) {
	for i := range 63 {
		for _, n := range []int{1<<i - 1, 1 << i, -1 << i, -1<<i - 1} {
			want := api.OK
			if n < least || n > great {
				want = api.ErrRange
			}
			text := strconv.Itoa(n)
			for _, k := range kinds {
				for at := range len(k.needs) {
					wants := want
					if k.needs[at] == 'V' {
						wants = api.OK
						if n < 0 || n > most {
							wants = api.ErrRange
						}
					}
					words := []string{k.name, "5", "6", "7"}[:len(k.needs)+1]
					words[at+1] = text
					if _, err := optext.Op(strings.Join(words, " ")); err != wants {
						t.Errorf("Op(%q): %d, want %d", words, err, wants)
					}
				}
			}
		}
	}
}
