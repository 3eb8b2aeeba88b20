package pause

import (
	"testing"

	"quitrent/api"
	"quitrent/heap"
)

// These tests look from within: no operation takes more than it may, so Over is never seen to rise from outside.

// noted answers what is counted as Over of an operation that told err and took so many accesses.
func noted(t *testing.T, c api.Conf, o api.Op, err api.Errno, took int) int {
	t.Helper()
	h, wrong := heap.New(c)
	if wrong != api.OK {
		t.Fatal(wrong)
	}
	w := New(h)
	w.note(o, err, took)
	l := w.Lines()
	if len(l) != 1 {
		t.Fatalf("%v: %v", o, l)
	}
	over := l[0].Over
	if l[0] != (Line{Kind: o.Kind, Count: 1, Worst: took, Sum: took, Over: over}) {
		t.Fatalf("%v: %v", o, l)
	}
	return over
}

// P27.1: what takes as many accesses as it may isn't counted, what takes one more is.
func TestOver(t *testing.T) {
	one, other := api.Conf{N: 100, W: 16, R: 4, K: 2000}, api.Conf{N: 9, W: 32, R: 4, K: 1}
	for i, x := range []struct {
		c    api.Conf
		o    api.Op
		err  api.Errno
		most int
	}{
		{one, api.Op{Kind: api.OpAlloc}, api.OK, 202368},
		{one, api.Op{Kind: api.OpAlloc, B: 4, C: 4}, api.OK, 202368},
		{one, api.Op{Kind: api.OpAlloc, B: 4, C: 5}, api.OK, 404224},
		{one, api.Op{Kind: api.OpAlloc, B: 120}, api.OK, 1817216},
		{other, api.Op{Kind: api.OpAlloc, B: 24}, api.OK, 4068},
		{other, api.Op{Kind: api.OpAlloc, A: 3, C: 31}, api.OK, 7624},
		{other, api.Op{Kind: api.OpAlloc, A: 3, C: 32}, api.OK, 11180},
		{one, api.Op{Kind: api.OpTick}, api.OK, 400256},
		{other, api.Op{Kind: api.OpTick}, api.OK, 456},
		{other, api.Op{Kind: api.OpTick, B: 5, C: 5}, api.OK, 456},
		// What tells an error may take 512, whatever it asks for.
		{one, api.Op{Kind: api.OpAlloc, B: 120}, api.ErrFull, 512},
		{one, api.Op{Kind: api.OpAlloc, A: 9}, api.ErrSlot, 512},
		{one, api.Op{Kind: api.OpAlloc, B: -1}, api.ErrSize, 512},
		{other, api.Op{Kind: api.OpTick}, api.ErrConf, 512},
		{one, api.Op{Kind: api.OpTick}, api.ErrConf, 512},
	} {
		if at, behind := noted(t, x.c, x.o, x.err, x.most), noted(t, x.c, x.o, x.err, x.most+1); at != 0 || behind != 1 {
			t.Errorf("the case %d: %d and %d", i, at, behind)
		}
		if none, far := noted(t, x.c, x.o, x.err, 0), noted(t, x.c, x.o, x.err, 1<<40); none != 0 || far != 1 {
			t.Errorf("the case %d: %d and %d, far away", i, none, far)
		}
	}
	for kind := api.OpLoad; kind < api.OpTick; kind++ {
		for _, err := range []api.Errno{api.OK, api.ErrSlot, api.ErrNil, api.ErrIndex} {
			o := api.Op{Kind: kind, B: 20, C: 40}
			if at, behind := noted(t, one, o, err, 512), noted(t, one, o, err, 513); at != 0 || behind != 1 {
				t.Errorf("the kind %d, %d: %d and %d", kind, err, at, behind)
			}
		}
	}
}

// P27.1: Over counts all of a kind, and of that kind alone; Worst is the greatest, also if it came first.
func TestOverOfSeveral(t *testing.T) {
	h, _ := heap.New(api.Conf{N: 9, W: 16, R: 4, K: 1})
	w := New(h)
	for _, took := range []int{3, 900, 512, 513, 0, 600} {
		w.note(api.Op{Kind: api.OpLoad}, api.OK, took)
		w.note(api.Op{Kind: api.OpAlloc}, api.OK, took)
	}
	w.note(api.Op{Kind: api.OpTick}, api.OK, 460)
	want := []Line{
		{Kind: api.OpAlloc, Count: 6, Worst: 900, Sum: 2528},
		{Kind: api.OpLoad, Count: 6, Worst: 900, Sum: 2528, Over: 3},
		{Kind: api.OpTick, Count: 1, Worst: 460, Sum: 460, Over: 1},
	}
	l := w.Lines()
	if len(l) != len(want) || w.Worst() != 900 {
		t.Fatal(l, w.Worst())
	}
	for i, x := range want {
		if l[i] != x {
			t.Errorf("%v, want %v", l[i], x)
		}
	}
}
