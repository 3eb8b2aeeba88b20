package optext_test

import (
	"slices"
	"strings"
	"testing"

	"quitrent/api"
	"quitrent/optext"
)

// plain is a configuration that may be; plainLine is its line, with a line feed.
var plain = api.Conf{N: 4, W: 16, R: 2, K: 1}

const plainLine = "heap 4 16 2 1\n"

// noScript looks whether Parse answers that fault, and nothing else.
func noScript(t *testing.T, s string, err api.Errno, at int) {
	t.Helper()
	if x, f := optext.Parse(s); !alike(x, optext.Script{}) || f != (optext.Fault{Err: err, Line: at}) {
		t.Errorf("Parse(%.60q) = %v, %d operations, %v, want %d, %d", s, x.Conf, len(x.Ops), f, err, at)
	}
}

// noText looks whether Print answers that fault, and nothing else.
func noText(t *testing.T, x optext.Script, err api.Errno, at int) {
	t.Helper()
	if s, f := optext.Print(x); s != "" || f != (optext.Fault{Err: err, Line: at}) {
		t.Errorf("Print of %v, %d operations: %.60q, %v, want %d, %d", x.Conf, len(x.Ops), s, f, err, at)
	}
}

// ticks answers so many operations.
func ticks(many int) []api.Op {
	return slices.Repeat([]api.Op{{Kind: api.OpTick}}, many)
}

// P28.4 and the chapter's example.
func TestScriptExample(t *testing.T) {
	want := optext.Script{Conf: plain, Ops: ticks(1)}
	if x, f := optext.Parse(plainLine + "tick\n"); !alike(x, want) || f != (optext.Fault{}) {
		t.Errorf("%v, %v", x, f)
	}
}

// P28.4: scripts and their texts, with operations of each kind, and of configurations that may not be.
func TestScripts(t *testing.T) {
	for _, x := range []struct {
		s    optext.Script
		want string
	}{
		{optext.Script{Conf: plain}, plainLine},
		{optext.Script{Conf: plain, Ops: []api.Op{}}, plainLine},
		{optext.Script{}, "heap 0 0 0 0\n"},
		{optext.Script{Conf: api.Conf{N: -1, W: 5, R: least, K: great}, Ops: ticks(2)}, "heap -1 5 -2147483648 2147483647\ntick\ntick\n"},
		{
			optext.Script{Conf: plain, Ops: []api.Op{
				{Kind: 1, A: 0, B: 1, C: 2}, {Kind: 2, A: 1, B: 0, C: 0}, {Kind: 3, A: 1, B: 0, C: 1}, {Kind: 4, A: 1, B: 5}, {Kind: 5, A: 1, B: 5, V: most},
				{Kind: 6, A: 0, B: 1}, {Kind: 7, A: 1}, {Kind: 8, A: 0, B: 1}, {Kind: 9, A: -9}, {Kind: 10},
			}},
			plainLine + "alloc 0 1 2\nload 1 0 0\nstore 1 0 1\nread 1 5\nwrite 1 5 4294967295\ncopy 0 1\ndrop 1\nsame 0 1\nlen -9\ntick\n",
		},
	} {
		if s, f := optext.Print(x.s); s != x.want || f != (optext.Fault{}) {
			t.Errorf("Print(%v) = %q, %v, want %q", x.s, s, f, x.want)
		}
		if back, f := optext.Parse(x.want); !alike(back, x.s) || f != (optext.Fault{}) {
			t.Errorf("Parse(%q) = %v, %v, want %v", x.want, back, f, x.s)
		}
	}
}

// P28.4: what a kind doesn't need makes no fault, and is in no text.
func TestScriptNotLookedAt(t *testing.T) {
	var l []api.Op
	want := plainLine
	for _, k := range kinds {
		numbers := []int{1, 2, 3}[:len(k.needs)]
		l = append(l, k.stuffed(k.made(numbers), 1<<40+7))
		want += line(k.name, numbers) + "\n"
	}
	if s, f := optext.Print(optext.Script{Conf: plain, Ops: l}); s != want || f != (optext.Fault{}) {
		t.Errorf("%q, %v, want %q", s, f, want)
	}
}

// P28.4: a configuration that has no line is a fault of the first one, ahead of those of operations.
func TestPrintWrongHead(t *testing.T) {
	for _, n := range far {
		for _, c := range []api.Conf{{N: n}, {W: n}, {R: n}, {K: n}} {
			for _, l := range [][]api.Op{nil, ticks(1), {{Kind: 99}}, {{Kind: api.OpDrop, A: n}}} {
				noText(t, optext.Script{Conf: c, Ops: l}, api.ErrRange, 1)
			}
		}
	}
}

// P28.4: an operation that has no line is a fault of the line where it would stand, and the first one is told.
func TestPrintWrongOp(t *testing.T) {
	noKind, noRange := api.Op{Kind: 11}, api.Op{Kind: api.OpLen, A: great + 1}
	for _, many := range []int{1, 2, 3, 10, api.MaxOps} {
		for _, at := range []int{0, 1, many / 2, many - 1} {
			if at >= many {
				continue
			}
			for wrong, err := range map[api.Op]api.Errno{noKind: api.ErrOp, noRange: api.ErrRange} {
				l := ticks(many)
				l[at] = wrong
				noText(t, optext.Script{Conf: plain, Ops: l}, err, at+2)
				for _, behind := range []api.Op{noKind, noRange} {
					if at+1 < many {
						l[many-1] = behind
						l[at] = wrong
						noText(t, optext.Script{Conf: plain, Ops: l}, err, at+2)
					}
				}
			}
		}
	}
}

// P28.4: MaxOps operations have a text, one more have none, ahead of all else that is wrong.
func TestPrintMany(t *testing.T) {
	want := plainLine + strings.Repeat("tick\n", api.MaxOps)
	if s, f := optext.Print(optext.Script{Conf: plain, Ops: ticks(5000)}); s != want || f != (optext.Fault{}) {
		t.Errorf("of 5000 operations a text of %d bytes, %v", len(s), f)
	}
	for _, many := range []int{5001, 5002, 6000, 100000} {
		noText(t, optext.Script{Conf: plain, Ops: ticks(many)}, api.ErrLimit, 0)
		noText(t, optext.Script{Conf: api.Conf{N: 1 << 40}, Ops: ticks(many)}, api.ErrLimit, 0)
		noText(t, optext.Script{Conf: plain, Ops: make([]api.Op, many)}, api.ErrLimit, 0)
	}
}

// P28.4: without a line there is an end, and not even a configuration.
func TestParseNothing(t *testing.T) {
	noScript(t, "", api.ErrEnd, 1)
	noScript(t, "\n", api.ErrForm, 1)
	noScript(t, "\n\n", api.ErrForm, 1)
	noScript(t, " ", api.ErrForm, 1)
	noScript(t, "\n"+plainLine, api.ErrForm, 1)
}

// P28.4: a line without a line feed is wrong, whatever it is, and none is missing behind the last one that has it.
func TestParseWithoutLineFeed(t *testing.T) {
	for _, last := range []string{"tick", "drop 1", "x", " ", "drop 01", "drop 99999999999", "heap 4 16 2 1", "\r", "\x00"} {
		noScript(t, last, api.ErrForm, 1)
		noScript(t, plainLine+last, api.ErrForm, 2)
		noScript(t, plainLine+"tick\ndrop 1\n"+last, api.ErrForm, 4)
	}
	noScript(t, "heap 4 16 2 99999999999", api.ErrForm, 1)
	whole := plainLine + "alloc 0 1 1\nwrite 0 0 77\ntick\n"
	lines := 0
	for i := range len(whole) {
		if i == 0 || whole[i-1] == '\n' {
			lines++
			continue
		}
		noScript(t, whole[:i], api.ErrForm, lines)
	}
	if lines != 4 {
		t.Errorf("%d lines", lines)
	}
}

// P28.4: the first line is the configuration's alone, and no other one is.
func TestParseWhichLine(t *testing.T) {
	noScript(t, "tick\n", api.ErrForm, 1)
	noScript(t, "tick\n"+plainLine, api.ErrForm, 1)
	noScript(t, plainLine+plainLine, api.ErrForm, 2)
	noScript(t, plainLine+"tick\n"+plainLine, api.ErrForm, 3)
	noScript(t, "heap 4 16 2\n", api.ErrForm, 1)
	noScript(t, "heap 4 16 2 4294967296\n", api.ErrRange, 1)
	noScript(t, "heap 4 16 2 01\ndrop 99999999999\n", api.ErrForm, 1)
	noScript(t, "heap 4 16 2 99999999999\ndrop 01\n", api.ErrRange, 1)
	noScript(t, " "+plainLine, api.ErrForm, 1)
	noScript(t, "#\n"+plainLine, api.ErrForm, 1)
}

// P28.4: an operation's line that is wrong, each with its error, at any place; the first one of several.
func TestParseWrongOp(t *testing.T) {
	wrong := []struct {
		line string
		err  api.Errno
	}{
		{"", api.ErrForm}, {"tick ", api.ErrForm}, {" tick", api.ErrForm}, {"tock", api.ErrForm}, {"drop 01", api.ErrForm}, {"drop", api.ErrForm}, {"tick\r", api.ErrForm},
		{"drop 99999999999", api.ErrRange}, {"write 0 0 -1", api.ErrRange}, {"copy -2147483649 01", api.ErrRange}, {"copy 01 -2147483649", api.ErrForm},
	}
	for _, many := range []int{0, 1, 2, 17, api.MaxOps - 1} {
		ahead := plainLine + strings.Repeat("len 0\n", many)
		for _, x := range wrong {
			noScript(t, ahead+x.line+"\n", x.err, many+2)
			for _, y := range wrong {
				noScript(t, ahead+x.line+"\n"+y.line+"\n", x.err, many+2)
			}
			noScript(t, ahead+x.line+"\ntick", x.err, many+2)
			noScript(t, ahead+x.line+"\n"+strings.Repeat("tick\n", api.MaxOps), x.err, many+2)
		}
	}
}

// P28.4: MaxOps operations are parsed; the line behind them is one too many, whatever it is, with a line feed or without.
func TestParseMany(t *testing.T) {
	full := plainLine + strings.Repeat("tick\n", 5000)
	if x, f := optext.Parse(full); !alike(x, optext.Script{Conf: plain, Ops: ticks(5000)}) || f != (optext.Fault{}) {
		t.Errorf("%v, %d operations, %v", x.Conf, len(x.Ops), f)
	}
	for _, more := range []string{"tick\n", "tick", "\n", "\n\n", "x\n", "x", " ", "drop 01\n", "drop 99999999999\n", "drop 99999999999", plainLine, strings.Repeat("tick\n", 100000)} {
		noScript(t, full+more, api.ErrLimit, 5002)
	}
	// What is wrong in a line ahead is told first, and so is the last one of MaxOps without a line feed.
	noScript(t, full[:len(full)-1], api.ErrForm, 5001)
	noScript(t, full[:len(full)-2]+"\ntick\n", api.ErrForm, 5001)
	noScript(t, "heap\n"+strings.Repeat("tick\n", 5001), api.ErrForm, 1)
}

// P28.4: texts of scripts with a few bytes spoilt, and all that a text begins with.
func TestSpoiltScripts(t *testing.T) {
	next := chance(284)
	met := map[api.Errno]int{}
	for range 6000 {
		s, f := optext.Print(anyScript(next, next(6)))
		if f != (optext.Fault{}) {
			t.Fatalf("%q, %v", s, f)
		}
		s = spoilt(next, s)
		for _, text := range []string{s, s[:next(len(s)+1)]} {
			want, fault := scriptOf(text)
			x, f := optext.Parse(text)
			if !alike(x, want) || f != fault {
				t.Errorf("Parse(%q) = %v, %v, want %v, %v", text, x, f, want, fault)
			}
			met[f.Err]++
		}
	}
	if met[api.OK] < 500 || met[api.ErrForm] < 2000 || met[api.ErrRange] < 50 || met[api.ErrEnd] < 50 {
		t.Errorf("%v: that tells too little", met)
	}
}

// P28.4: what is handed in stays as it was, and what is answered is nobody else's.
func TestOwnMemory(t *testing.T) {
	x := optext.Script{Conf: plain, Ops: []api.Op{{Kind: api.OpDrop, A: 1, B: 1 << 40, C: 3, V: 4}, {Kind: api.OpTick, A: 9}, {Kind: api.OpLen}}}
	kept := slices.Clone(x.Ops)
	s, f := optext.Print(x)
	if f != (optext.Fault{}) || !slices.Equal(x.Ops, kept) || x.Conf != plain {
		t.Errorf("%v, %v, was %v", f, x.Ops, kept)
	}
	a, _ := optext.Parse(s)
	b, _ := optext.Parse(s)
	want := slices.Clone(b.Ops)
	for i := range a.Ops {
		a.Ops[i] = api.Op{Kind: 77}
	}
	_ = append(a.Ops, api.Op{})
	again, _ := optext.Parse(s)
	if len(want) != 3 || !slices.Equal(b.Ops, want) || !slices.Equal(again.Ops, want) {
		t.Errorf("%v, %v, want %v", b.Ops, again.Ops, want)
	}
}
