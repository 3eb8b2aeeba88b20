package optext_test

import (
	"strings"
	"testing"

	"quitrent/api"
	"quitrent/optext"
)

// confFrom answers the configuration of four numbers.
func confFrom(l []int) api.Conf {
	return api.Conf{N: l[0], W: l[1], R: l[2], K: l[3]}
}

// noConf looks whether Conf answers that error, and nothing else.
func noConf(t *testing.T, s string, want api.Errno) {
	t.Helper()
	if c, err := optext.Conf(s); c != (api.Conf{}) || err != want {
		t.Errorf("Conf(%.60q) = %v, %d, want %d", s, c, err, want)
	}
}

// checkConf holds Conf against what it should answer.
func checkConf(t *testing.T, s string) api.Errno {
	t.Helper()
	want, wantErr := confOf(s)
	c, err := optext.Conf(s)
	if c != want || err != wantErr {
		t.Errorf("Conf(%.60q) = %v, %d, want %v, %d", s, c, err, want, wantErr)
	}
	return err
}

// P28.3: configurations and their lines, also of those that may not be.
func TestHeads(t *testing.T) {
	for _, x := range []struct {
		c    api.Conf
		want string
	}{
		{api.Conf{N: 4, W: 16, R: 2, K: 1}, "heap 4 16 2 1"},
		{api.Conf{N: 1048576, W: 4, R: 4096, K: 65536}, "heap 1048576 4 4096 65536"},
		{api.Conf{}, "heap 0 0 0 0"},
		{api.Conf{N: -1, W: -2, R: -3, K: -4}, "heap -1 -2 -3 -4"},
		{api.Conf{N: least, W: great, R: least, K: great}, "heap -2147483648 2147483647 -2147483648 2147483647"},
	} {
		if s, err := optext.Head(x.c); s != x.want || err != api.OK {
			t.Errorf("Head(%v) = %q, %d, want %q", x.c, s, err, x.want)
		}
		if c, err := optext.Conf(x.want); c != x.c || err != api.OK {
			t.Errorf("Conf(%q) = %v, %d, want %v", x.want, c, err, x.c)
		}
	}
}

// P28.3: each of the four numbers from the least to the greatest, and beyond.
func TestHeadEnds(t *testing.T) {
	for at := range 4 {
		for _, n := range near {
			l := []int{5, 6, 7, 8}
			l[at] = n
			if s, err := optext.Head(confFrom(l)); s != line("heap", l) || err != api.OK {
				t.Errorf("Head of %v: %q, %d", l, s, err)
			}
			if c, err := optext.Conf(line("heap", l)); c != confFrom(l) || err != api.OK {
				t.Errorf("Conf of %v: %v, %d", l, c, err)
			}
		}
		for _, n := range far {
			l := []int{5, 6, 7, 8}
			l[at] = n
			if s, err := optext.Head(confFrom(l)); s != "" || err != api.ErrRange {
				t.Errorf("Head of %v: %q, %d", l, s, err)
			}
			noConf(t, line("heap", l), api.ErrRange)
		}
	}
}

// P28.3: the first word must be heap, whatever stands behind it, and of words there are just five.
func TestWrongHeads(t *testing.T) {
	for _, word := range []string{"", "Heap", "HEAP", "hea", "heaps", "eap", "alloc", "tick", "4", "-", "\theap", "heap\t", "heap\n", "heap\r", "heap\x00", "\xff", "héap", "heap,"} {
		for many := range 7 {
			for _, w := range []string{"1", "x", "99999999999", ""} {
				noConf(t, word+strings.Repeat(" "+w, many), api.ErrForm)
			}
		}
	}
	for many := range 9 {
		if many == 4 {
			continue
		}
		for _, w := range []string{"1", "0", "x", "", "-", "01", "99999999999"} {
			noConf(t, "heap"+strings.Repeat(" "+w, many), api.ErrForm)
		}
	}
	for _, s := range []string{" heap 4 16 2 1", "heap 4 16 2 1 ", "heap  4 16 2 1", "heap 4 16  2 1", "heap  16 2 1", "heap 4 16 2 ", "heap 4\t16 2 1", "heap 4 16 2 1\n", "heap\t4 16 2 1", "heap 4 16 2 1\r", "heap,4,16,2,1", "heap" + strings.Repeat(" ", 1000000)} {
		noConf(t, s, api.ErrForm)
	}
}

// P28.3: a word that is no number's, at each place.
func TestWrongHeadWords(t *testing.T) {
	for at := range 4 {
		for _, w := range wrongNumbers {
			words := []string{"heap", "4", "16", "2", "1"}
			words[at+1] = w
			noConf(t, strings.Join(words, " "), api.ErrForm)
		}
	}
}

// P28.3: of several numbers that are wrong the first one is told, of whichever error.
func TestFirstHeadNumber(t *testing.T) {
	met := map[api.Errno]int{}
	for i := range 625 {
		s, rest := "heap", i
		for range 4 {
			s += " " + []string{"1", "01", "99999999999", "-", "-2147483649"}[rest%5]
			rest /= 5
		}
		met[checkConf(t, s)]++
	}
	if met[api.OK] != 1 || met[api.ErrForm] != 312 || met[api.ErrRange] != 312 {
		t.Errorf("%v: that tells too little", met)
	}
	noConf(t, "heap 99999999999 x 2 1", api.ErrRange)
	noConf(t, "heap x 99999999999 2 1", api.ErrForm)
	noConf(t, "heap 4 16 2 4294967295", api.ErrRange)
}

// P28.3: lines with a few bytes spoilt.
func TestSpoiltHeads(t *testing.T) {
	next := chance(283)
	met := map[api.Errno]int{}
	for range 20000 {
		s, err := optext.Head(anyScript(next, 0).Conf)
		if err != api.OK {
			t.Fatalf("%q, %d", s, err)
		}
		met[checkConf(t, spoilt(next, s))]++
	}
	if met[api.OK] < 1000 || met[api.ErrForm] < 1000 || met[api.ErrRange] < 300 {
		t.Errorf("%v: that tells too little", met)
	}
}
