package op_test

import (
	"math"
	"slices"
	"testing"

	"quitrent/api"
	"quitrent/heap"
	"quitrent/op"
)

// told is an operation, and what it has to answer.
type told struct {
	o    api.Op
	want api.Answer
}

// tells does operations one behind the other, and holds each answer against what it has to be.
func tells(t *testing.T, h *heap.Heap, l ...told) {
	t.Helper()
	for i, x := range l {
		if a := op.Do(h, x.o); a != x.want {
			t.Fatalf("the operation %d, %v: %v, want %v", i, x.o, a, x.want)
		}
	}
}

// fail answers an answer that has an error, and nothing else.
func fail(e api.Errno) api.Answer {
	return api.Answer{Err: e}
}

// P22.2: each kind, done right: each answer has what the chapter says, and all else in it is 0.
func TestDo(t *testing.T) {
	none, yes, no := api.Answer{}, api.Answer{N: 1}, api.Answer{}
	tells(t, open(t, small),
		told{sames(0, 3), yes},
		told{allocates(0, 2, 3), none},
		told{lens(0), api.Answer{N: 2, M: 3}},
		told{reads(0, 2), none},
		told{writes(0, 2, most), none},
		told{reads(0, 2), api.Answer{V: most}},
		told{writes(0, 0, 7), none},
		told{reads(0, 0), api.Answer{V: 7}},
		told{allocates(1, 1, 0), none},
		told{lens(1), api.Answer{N: 1}},
		told{allocates(2, 0, 11), none},
		told{lens(2), api.Answer{M: 11}},
		told{sames(0, 1), no},
		told{sames(3, 3), yes},
		told{sames(1, 1), yes},
		told{sames(1, 3), no},
		told{stores(0, 1, 1), none},
		told{loads(3, 0, 1), none},
		told{sames(1, 3), yes},
		told{sames(3, 1), yes},
		told{loads(3, 0, 0), none},
		told{lens(3), fail(api.ErrNil)},
		told{copies(3, 0), none},
		told{lens(3), api.Answer{N: 2, M: 3}},
		told{sames(3, 0), yes},
		told{drops(0), none},
		told{sames(3, 0), no},
		told{lens(0), fail(api.ErrNil)},
		told{reads(3, 2), api.Answer{V: most}},
		told{allocates(3, 0, 0), none},
		told{lens(3), none},
		told{ticks(), none},
		told{reads(2, 10), none},
	)
}

// P22.2: each number of an operation goes to its place: two slots, or a slot and a field, that would change places tell something else.
func TestDoEachNumberInItsPlace(t *testing.T) {
	none := api.Answer{}
	tells(t, open(t, small),
		told{allocates(2, 1, 3), none},
		told{lens(2), api.Answer{N: 1, M: 3}},
		told{lens(1), fail(api.ErrNil)},
		told{allocates(1, 4, 0), none},
		told{lens(1), api.Answer{N: 4}},
		told{stores(1, 3, 2), none},
		told{stores(2, 0, 1), none},
		told{loads(0, 1, 3), none},
		told{sames(0, 2), api.Answer{N: 1}},
		told{loads(3, 2, 0), none},
		told{sames(3, 1), api.Answer{N: 1}},
		told{writes(2, 1, 3), none},
		told{reads(2, 1), api.Answer{V: 3}},
		told{reads(2, 2), none},
		told{copies(3, 2), none},
		told{sames(3, 2), api.Answer{N: 1}},
		told{sames(3, 1), none},
		told{drops(2), none},
		told{lens(3), api.Answer{N: 1, M: 3}},
		told{copies(1, 2), none},
		told{lens(1), fail(api.ErrNil)},
	)
}

// P22.2: each kind, done wrong in each way: the answer has the call's error, and nothing else; no word is changed.
func TestDoWrong(t *testing.T) {
	h := open(t, small)
	none := api.Answer{}
	// The slot 0 has an object of each sort of field; the slot 1 one of none; the slot 2 nothing; and there is room for six blocks.
	tells(t, h, told{allocates(0, 1, 1), none}, told{allocates(1, 0, 0), none}, told{writes(0, 0, 5), none}, told{allocates(3, 0, 0), none})
	wrong := []told{
		{allocates(0, 100, 21), fail(api.ErrSize)}, {allocates(0, -1, 0), fail(api.ErrSize)}, {allocates(0, 0, -1), fail(api.ErrSize)},
		{allocates(0, 0, 76), fail(api.ErrFull)}, {allocates(2, 120, 0), fail(api.ErrFull)},
		{loads(0, 2, 0), fail(api.ErrNil)}, {stores(2, 0, 0), fail(api.ErrNil)}, {reads(2, 0), fail(api.ErrNil)}, {writes(2, 0, 1), fail(api.ErrNil)}, {lens(2), fail(api.ErrNil)},
	}
	for _, i := range append([]int{-1, 1, 2}, far...) {
		wrong = append(wrong, told{loads(0, 0, i), fail(api.ErrIndex)}, told{stores(0, i, 0), fail(api.ErrIndex)}, told{reads(0, i), fail(api.ErrIndex)}, told{writes(0, i, 1), fail(api.ErrIndex)})
	}
	for _, s := range append([]int{-1, 4, 5}, far...) {
		wrong = append(wrong,
			told{allocates(s, 1, 1), fail(api.ErrSlot)}, told{allocates(s, -1, 1), fail(api.ErrSlot)},
			told{loads(s, 0, 0), fail(api.ErrSlot)}, told{loads(0, s, 0), fail(api.ErrSlot)}, told{loads(s, 2, 9), fail(api.ErrSlot)},
			told{stores(s, 0, 0), fail(api.ErrSlot)}, told{stores(0, 0, s), fail(api.ErrSlot)}, told{stores(2, 9, s), fail(api.ErrSlot)},
			told{reads(s, 0), fail(api.ErrSlot)}, told{writes(s, 0, 1), fail(api.ErrSlot)},
			told{copies(s, 0), fail(api.ErrSlot)}, told{copies(0, s), fail(api.ErrSlot)}, told{drops(s), fail(api.ErrSlot)},
			told{sames(s, 0), fail(api.ErrSlot)}, told{sames(0, s), fail(api.ErrSlot)}, told{sames(s, s), fail(api.ErrSlot)}, told{lens(s), fail(api.ErrSlot)},
		)
	}
	words := h.Ground().Words()
	for _, x := range wrong {
		tells(t, h, x)
		if !slices.Equal(h.Ground().Words(), words) {
			t.Fatalf("%v changed a word", x.o)
		}
	}
}

// P22.2: an operation of another kind tells ErrOp, and neither gets nor puts a word, whatever its numbers are.
func TestDoAnotherKind(t *testing.T) {
	for _, c := range confs {
		h := open(t, c)
		tells(t, h, told{allocates(0, 0, 3), api.Answer{}}, told{writes(0, 1, 9), api.Answer{}})
		words, meter := h.Ground().Words(), h.Meter()
		for _, kind := range wrongKinds {
			for _, o := range []api.Op{{Kind: kind}, {Kind: kind, B: 1, V: 3}, {Kind: kind, A: -1, B: 1, C: 1}, {Kind: kind, A: c.R, B: math.MaxInt, C: math.MinInt, V: most}} {
				tells(t, h, told{o, fail(api.ErrOp)})
				if h.Meter() != meter || !slices.Equal(h.Ground().Words(), words) {
					t.Fatalf("%v: %v did something", c, o)
				}
			}
		}
	}
}

// P22.2: of a nil heap each kind tells what its call does, and another kind that it is none.
func TestDoOfNoHeap(t *testing.T) {
	for _, k := range kinds {
		for _, n := range append([]int{0, 1, -1}, far...) {
			tells(t, nil, told{k.made(n, n, n), fail(api.ErrConf)})
		}
	}
	for _, n := range wrongKinds {
		tells(t, nil, told{api.Op{Kind: n, A: 1}, fail(api.ErrOp)})
	}
	want := []api.Answer{fail(api.ErrConf), fail(api.ErrOp), fail(api.ErrConf)}
	if l := op.Run(nil, []api.Op{ticks(), {Kind: 11}, sames(0, 0)}); !slices.Equal(l, want) {
		t.Errorf("Run of no heap: %v", l)
	}
	if l := op.Run(nil, nil); len(l) != 0 {
		t.Errorf("Run of nothing on no heap: %v", l)
	}
}

// P22.2: in a long row of operations each does what the call of its kind does: the same answer, the same words, the same accesses.
func TestDoIsTheCall(t *testing.T) {
	for i, c := range confs {
		next, h, met := chance(uint32(i+1)), open(t, c), map[api.Op]int{}
		for range 3000 {
			o := anyOp(next, c)
			other := twin(t, h)
			want, ahead := call(other, o), h.Meter()
			if a := op.Do(h, o); a != want {
				t.Fatalf("%v: %v: %v, want %v", c, o, a, want)
			}
			alike(t, o, h, other, ahead)
			met[api.Op{Kind: o.Kind, A: int(want.Err)}]++
		}
		for _, k := range kinds {
			if met[api.Op{Kind: k.number}] < 10 {
				t.Errorf("%v: %s was done %d times: that tells too little", c, k.name, met[api.Op{Kind: k.number}])
			}
			if k.slot != "" && met[api.Op{Kind: k.number, A: int(api.ErrSlot)}] < 5 {
				t.Errorf("%v: %s told ErrSlot too seldom", c, k.name)
			}
		}
	}
}

// P22.2: Run does each operation, in order, also behind an error, and tells as many answers.
func TestRun(t *testing.T) {
	l := []api.Op{
		reads(0, 0), allocates(0, 0, 2), writes(0, 1, 9), reads(0, 1), {Kind: 11, A: 0, B: 1, V: 4}, reads(0, 1),
		lens(4), writes(0, 2, 1), copies(1, 0), sames(0, 1), {}, drops(0), allocates(0, 120, 0), lens(0), lens(1), ticks(), {Kind: -3},
	}
	want := []api.Answer{
		fail(api.ErrNil), {}, {}, {V: 9}, fail(api.ErrOp), {V: 9},
		fail(api.ErrSlot), fail(api.ErrIndex), {}, {N: 1}, fail(api.ErrOp), {}, fail(api.ErrFull), fail(api.ErrNil), {M: 2}, {}, fail(api.ErrOp),
	}
	h, handed := open(t, small), slices.Clone(l)
	got := op.Run(h, l)
	if !slices.Equal(got, want) {
		t.Errorf("%v, want %v", got, want)
	}
	if !slices.Equal(l, handed) {
		t.Errorf("what was handed in is changed: %v", l)
	}
	other := open(t, small)
	for i, o := range l {
		if a := op.Do(other, o); a != want[i] {
			t.Errorf("%v: %v, want %v", o, a, want[i])
		}
	}
	alike(t, api.Op{}, h, other, 0)
}

// P22.2: Run of no operation answers no answer, and does nothing.
func TestRunOfNothing(t *testing.T) {
	h := open(t, small)
	words := h.Ground().Words()
	for _, l := range [][]api.Op{nil, {}, make([]api.Op, 0, 9)} {
		if got := op.Run(h, l); len(got) != 0 {
			t.Errorf("%d answers", len(got))
		}
	}
	if h.Meter() != 0 || !slices.Equal(h.Ground().Words(), words) {
		t.Error("that did something")
	}
}

// P22.2: the operations of one row, done in several, tell the same; what Run answered once is changed by nothing that comes later.
func TestRunInParts(t *testing.T) {
	for i, c := range confs {
		next := chance(uint32(100 + i))
		l := []api.Op{}
		for range 1500 {
			l = append(l, anyOp(next, c))
		}
		whole, parts, single := open(t, c), open(t, c), open(t, c)
		want := op.Run(whole, l)
		kept := slices.Clone(want)
		got, one := []api.Answer{}, []api.Answer{}
		for at := 0; at < len(l); {
			end := min(len(l), at+next(40))
			got = append(got, op.Run(parts, l[at:end])...)
			at = end
		}
		for _, o := range l {
			one = append(one, op.Do(single, o))
		}
		if !slices.Equal(want, kept) || !slices.Equal(got, want) || !slices.Equal(one, want) {
			t.Fatalf("%v: other answers", c)
		}
		alike(t, api.Op{}, parts, single, 0)
		alike(t, api.Op{}, whole, single, 0)
	}
}

// P22.2: the place of the first answer with an error, by that alone.
func TestFirst(t *testing.T) {
	l := []api.Answer{{N: 9, M: 9, V: 9}, fail(api.ErrFull), {Err: api.ErrNil, N: 3}, {}, fail(api.ErrFull), fail(api.ErrNil), {Err: 99}, {Err: -1}}
	for _, x := range []struct {
		e    api.Errno
		want int
	}{{api.OK, 0}, {api.ErrFull, 1}, {api.ErrNil, 2}, {99, 6}, {-1, 7}, {api.ErrSlot, -1}, {api.ErrOp, -1}, {api.ErrNone, -1}, {9, -1}, {3, -1}, {math.MaxInt, -1}, {math.MinInt, -1}} {
		if n := op.First(l, x.e); n != x.want {
			t.Errorf("First of %d: %d, want %d", x.e, n, x.want)
		}
	}
	if n := op.First(l[1:3], api.OK); n != -1 {
		t.Errorf("First of OK, which is not there: %d", n)
	}
	if n := op.First(l[1:], api.OK); n != 2 {
		t.Errorf("First of OK: %d, want 2", n)
	}
	for _, none := range [][]api.Answer{nil, {}} {
		for e := api.Errno(-1); e <= api.ErrNone+1; e++ {
			if n := op.First(none, e); n != -1 {
				t.Errorf("First of none: %d", n)
			}
		}
	}
}

// P22.2: each error at each place of a row, alone, and with the same one behind it.
func TestFirstAtEachPlace(t *testing.T) {
	for n := 1; n <= 8; n++ {
		for at := range n {
			for e := api.ErrConf; e <= api.ErrNone; e++ {
				l := make([]api.Answer, n)
				l[at].Err = e
				for _, last := range []api.Errno{l[n-1].Err, e} {
					l[n-1].Err = last
					if got := op.First(l, e); got != at {
						t.Errorf("First of %d in %v: %d, want %d", e, l, got, at)
					}
				}
			}
		}
	}
}

// P22.2: an Alloc that finds no room is found in what a row answered.
func TestFirstFull(t *testing.T) {
	h := open(t, small)
	l := []api.Op{allocates(0, 1, 0)}
	for range 12 {
		l = append(l, allocates(1, 1, 0), stores(1, 0, 0), copies(0, 1))
	}
	// Nine blocks: one for the first Alloc, and one for each of eight more, none of which is let.
	if n := op.First(op.Run(h, l), api.ErrFull); n != 25 {
		t.Errorf("the first ErrFull: %d, not 25", n)
	}
}
