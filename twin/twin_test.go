package twin_test

import (
	"slices"
	"testing"

	"quitrent/api"
	"quitrent/op"
	"quitrent/twin"
)

// P26.1: what is told of plays that are told here whole.
func TestPlay(t *testing.T) {
	const (
		ok    = api.OK
		size  = api.ErrSize
		full  = api.ErrFull
		slot  = api.ErrSlot
		none  = api.ErrNil
		index = api.ErrIndex
		kind  = api.ErrOp
	)
	two, ones := api.Conf{N: 2, W: 16, R: 2, K: 1}, api.Conf{N: 2, W: 16, R: 1, K: 1}
	for _, x := range []struct {
		what string
		c    api.Conf
		l    []api.Op
		want twin.Report
	}{
		{"the chapter's example", ones, []api.Op{allocates(0, 0, 0), allocates(0, 0, 0), allocates(0, 0, 0)},
			twin.Report{Answers: fails(ok, ok, ok), Wrong: -1, Most: 1}},
		{"two blocks, three objects", two, []api.Op{allocates(0, 1, 0), allocates(1, 1, 0), allocates(1, 0, 0), stores(0, 0, 0), drops(0)},
			twin.Report{Answers: fails(ok, ok, full, ok, ok), Full: 1, Wrong: -1, Most: 2, Lost: 1}},
		{"full ones, and what is held stays", tight, []api.Op{allocates(0, 1, 3), writes(0, 2, 7), allocates(1, 0, 0), reads(1, 0), allocates(0, 0, 9), reads(0, 2), sames(0, 1), lens(0), drops(0), allocates(1, 0, 9), allocates(1, 0, 0), sames(0, 1)},
			twin.Report{Answers: []api.Answer{{}, {}, {Err: full}, {Err: none}, {Err: full}, {V: 7}, {}, {N: 1, M: 3}, {}, {Err: full}, {}, {}}, Full: 3, Wrong: -1, Most: 1}},
		{"nothing that is right", roomy, []api.Op{{}, {Kind: 11, A: 1, B: 999}, ticks(), allocates(5, 0, 0), allocates(-1, 0, 0), allocates(0, -1, 0), allocates(0, 144, 1), loads(0, 1, 0), stores(0, 0, 5), copies(0, 5), lens(4), drops(-1), sames(0, 5)},
			twin.Report{Answers: fails(kind, kind, ok, slot, slot, size, size, none, slot, slot, none, slot, slot), Wrong: -1, Bound: 13}},
		{"wrong ones between right ones", roomy, []api.Op{allocates(4, 1, 1), stores(4, 1, 4), stores(4, 0, 4), reads(4, 1), reads(4, 0), loads(0, 4, 0), sames(0, 4), loads(0, 4, 9), writes(4, -1, 1), drops(4), sames(0, 4), lens(4)},
			twin.Report{Answers: []api.Answer{{}, {Err: index}, {}, {Err: index}, {}, {}, {N: 1}, {Err: index}, {Err: index}, {}, {}, {Err: none}}, Wrong: -1, Most: 1, Bound: 12}},
		{"nothing lost where counts find all", roomy, []api.Op{allocates(0, 1, 20), allocates(1, 0, 0), drops(0), allocates(1, 0, 20), drops(1)},
			twin.Report{Answers: fails(ok, ok, ok, ok, ok), Wrong: -1, Most: 4, Bound: 5}},
		{"most in between, and lost what a dead one names", roomy, []api.Op{allocates(0, 1, 20), allocates(1, 0, 0), stores(0, 0, 1), drops(1), drops(0), allocates(0, 9, 0), drops(0)},
			twin.Report{Answers: fails(ok, ok, ok, ok, ok, ok, ok), Wrong: -1, Most: 4, Lost: 1, Bound: 7}},
		{"lost in between, and found", api.Conf{N: 4, W: 16, R: 2, K: 1}, slices.Concat([]api.Op{allocates(0, 1, 20), stores(0, 0, 0), drops(0), allocates(0, 1, 0), stores(0, 0, 0)}, slices.Repeat([]api.Op{ticks()}, 1000), []api.Op{allocates(1, 0, 20), allocates(1, 0, 20)}),
			twin.Report{Answers: append(make([]api.Answer, 1006), fails(full)...), Full: 1, Wrong: -1, Most: 4, Lost: 3}},
	} {
		if r, err := twin.Play(x.c, x.l); err != api.OK || !alike(r, x.want) {
			t.Errorf("%s: %v, %d, want %v", x.what, r, err, x.want)
		}
	}
}

// P26.1: Bound is the place of the first operation behind which more is live than may be, or that asks for more than may be, whatever it answers; how many there are, if there is none.
func TestBound(t *testing.T) {
	for i, x := range []struct {
		c    api.Conf
		l    []api.Op
		want int
	}{
		// The first one asks for what may be live, for more, and for more where it is told an error.
		{pinch, []api.Op{allocates(0, 4, 4)}, 1},
		{pinch, []api.Op{allocates(0, 4, 5)}, 0},
		{pinch, []api.Op{allocates(3, 4, 5), allocates(0, 0, 0)}, 0},
		{pinch, []api.Op{allocates(-1, 120, 0)}, 0},
		{pinch, []api.Op{allocates(-1, 8, 0)}, 1},
		{roomy, []api.Op{allocates(0, 0, 144), allocates(1, 144, 0), allocates(2, 0, 144), allocates(3, 0, 96)}, 3},
		{roomy, []api.Op{allocates(0, 0, 144), allocates(1, 144, 0), allocates(2, 0, 144), allocates(3, 0, 80)}, 4},
		// Ahead of it there is something else.
		{pinch, []api.Op{ticks(), lens(0), {}, drops(0), allocates(0, 9, 0), ticks()}, 4},
		// No object has such a size, so none is asked for; nor is one by what is no Alloc.
		{pinch, []api.Op{allocates(0, 121, 0), allocates(0, 0, -1), allocates(0, most, most)}, 3},
		{pinch, []api.Op{{Kind: api.OpWrite, A: 0, B: 40, C: 40}, {Kind: api.OpTick, B: 40}, {Kind: 11, B: 40}, {Kind: 0, B: 40}, stores(0, 40, 1), loads(0, 1, 40)}, 6},
		// What is live behind it is what may be; but ahead of it that was asked for beside what was live.
		{pinch, []api.Op{allocates(0, 0, 0), allocates(0, 0, 0)}, 1},
		{pinch, []api.Op{allocates(0, 0, 0), allocates(0, 0, 9)}, 1},
		{pinch, []api.Op{allocates(0, 0, 0), drops(0), allocates(0, 0, 0), copies(1, 0), drops(0), allocates(0, 0, 0)}, 5},
		{pinch, []api.Op{allocates(0, 0, 0), drops(0), allocates(1, 0, 0), drops(1), allocates(2, 0, 0), reads(2, 0)}, 6},
		// What is lost is not live.
		{pinch, []api.Op{allocates(0, 1, 0), stores(0, 0, 0), drops(0), allocates(0, 1, 0), stores(0, 0, 0), drops(0), allocates(1, 1, 0)}, 7},
		// A later one counts no more, nor where less is live.
		{pinch, []api.Op{allocates(0, 0, 0), allocates(1, 0, 0), drops(0), drops(1), allocates(0, 9, 9), drops(0), allocates(0, 0, 0)}, 1},
		// Where nothing may be live, each Alloc asks for too much.
		{small, []api.Op{lens(0), allocates(0, -1, 0), allocates(9, 0, 0), allocates(0, 0, 0)}, 2},
		{tight, []api.Op{ticks(), allocates(0, 0, 0)}, 1},
		{tight, []api.Op{ticks(), ticks()}, 2},
	} {
		if r := play(t, x.c, x.l); r.Bound != x.want {
			t.Errorf("the case %d: %d, want %d", i, r.Bound, x.want)
		}
	}
}

// P26.1: of any operations the report is what a heap by itself says, and the answers are those of layer 22's Run.
func TestAnyPlay(t *testing.T) {
	for i, c := range confs {
		full, lost, bound, reached := 0, 0, 0, 0
		for seed := range 8 {
			l := anyOps(chance(uint32(10*i+seed)), c, 50+50*seed)
			r, want := play(t, c, l), reckoned(t, c, l)
			if !alike(r, want) {
				t.Fatalf("%v: %v, want %v", c, r, want)
			}
			full += r.Full
			lost += r.Lost
			reached += r.Most
			if 0 < r.Bound && r.Bound < len(l) {
				bound++
			}
		}
		if full < 10 && c.N < 10 || lost < 5 && c.N > 1 && c.K < 100 || bound < 5 && spares[c] < 2 || reached < 8 {
			t.Errorf("%v: %d, %d, %d, %d: that tells too little", c, full, lost, bound, reached)
		}
	}
}

// P26.1: the report of no operations.
func TestNoOperations(t *testing.T) {
	for _, c := range confs {
		for _, l := range [][]api.Op{nil, {}} {
			if r, err := twin.Play(c, l); err != api.OK || !alike(r, twin.Report{Wrong: -1}) {
				t.Errorf("%v: %v, %d", c, r, err)
			}
		}
	}
}

// P26.1: of a configuration that may not be there is layer 3's error, and no report, whatever the operations are.
func TestWrongConf(t *testing.T) {
	for _, c := range wrongConfs() {
		for _, l := range [][]api.Op{nil, {ticks()}, {allocates(0, 0, 0), {Kind: 99}}} {
			if r, err := twin.Play(c, l); err != api.ErrConf || !alike(r, twin.Report{}) {
				t.Errorf("%v: %v, %d", c, r, err)
			}
		}
		if n := twin.Spare(c); n != 0 {
			t.Errorf("%v: %d", c, n)
		}
	}
}

// P26.1: Spare is N less Lag, or 0.
func TestSpare(t *testing.T) {
	for c, want := range spares {
		if n := twin.Spare(c); n != want {
			t.Errorf("%v: %d, want %d", c, n, want)
		}
	}
	for _, x := range []struct{ n, w, k, want int }{
		{100, 16, 2000, 76}, {100, 16, 4000, 78}, {100, 16, 1702, 76}, {100, 16, 1701, 74}, {1, 16, 1, 0}, {1, 256, 65536, 0},
		{19, 16, 65536, 0}, {20, 16, 65536, 0}, {21, 16, 65536, 1}, {22, 16, 65536, 2}, {500, 256, 65536, 0}, {520, 256, 65536, 8},
		{262144, 16, 65536, 261716}, {262144, 16, 1, 0}, {16384, 256, 65536, 15500},
	} {
		for _, r := range []int{1, 5, api.MaxR} {
			if n := twin.Spare(api.Conf{N: x.n, W: x.w, R: r, K: x.k}); n != x.want {
				t.Errorf("%v, %d slots: %d", x, r, n)
			}
		}
	}
}

// P26.1: the operations that are handed in stay as they are; the same play tells the same again, whatever was written into the answers.
func TestAnswersAreOnesOwn(t *testing.T) {
	for i, c := range confs {
		l := anyOps(chance(uint32(i)), c, 60)
		kept := slices.Clone(l)
		r := play(t, c, l)
		again := play(t, c, l)
		if !slices.Equal(l, kept) || !alike(r, again) {
			t.Fatalf("%v: %v, then %v", c, r, again)
		}
		for at := range r.Answers {
			r.Answers[at] = api.Answer{Err: 99, N: 99, M: 99, V: 99}
		}
		_ = append(r.Answers, r.Answers...)
		clear(l)
		if third := play(t, c, kept); !alike(again, third) || slices.Contains(again.Answers, api.Answer{Err: 99, N: 99, M: 99, V: 99}) {
			t.Errorf("%v: %v, then %v", c, again, third)
		}
	}
}

// P26.1: a play may have more operations than a script.
func TestLongPlay(t *testing.T) {
	l := anyOps(chance(4), small, api.MaxOps+1000)
	r := play(t, small, l)
	if first := op.First(r.Answers, api.ErrFull); first < r.Bound || first == -1 || !alike(r, reckoned(t, small, l)) {
		t.Error(first, r.Full, r.Most, r.Lost, r.Bound)
	}
}

// P26.1: at the greatest numbers, too.
func TestGreatest(t *testing.T) {
	for _, c := range []api.Conf{{N: 262144, W: 16, R: 4096, K: 65536}, {N: 16384, W: 256, R: 4096, K: 65536}} {
		all := (c.W - 8) * (c.W - 1)
		r := play(t, c, []api.Op{allocates(4095, all, 0), stores(4095, all-1, 4095), allocates(4096, 0, 0), drops(4095)})
		want := twin.Report{Answers: fails(api.OK, api.OK, api.ErrSlot, api.OK), Wrong: -1, Most: c.W - 7, Lost: c.W - 7, Bound: 4}
		if !alike(r, want) {
			t.Errorf("%v: %v, want %v", c, r, want)
		}
	}
}
