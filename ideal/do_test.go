package ideal_test

import (
	"math"
	"testing"

	"quitrent/api"
	"quitrent/heap"
	"quitrent/op"
)

// told is an operation, and what it has to answer.
type told struct {
	o    api.Op
	want api.Answer
}

// tells does operations one behind the other, and holds each answer against what it has to be, whether there would be room or not where that makes no difference.
func (k *kept) tells(t *testing.T, l ...told) {
	t.Helper()
	for i, x := range l {
		if a := k.does(t, x.o, i%2 == 1 && x.o.Kind != api.OpAlloc); a != x.want {
			t.Fatalf("the operation %d, %v: %v, want %v", i, x.o, a, x.want)
		}
		k.alike(t)
	}
}

// P23.1: each kind, done right: each answer has what the chapter says, and all else in it is 0.
func TestDo(t *testing.T) {
	none, yes, no := api.Answer{}, api.Answer{N: 1}, api.Answer{}
	keep(t, small).tells(t,
		told{sames(0, 3), yes},
		told{sames(2, 2), yes},
		told{allocates(0, 2, 3), none},
		told{lens(0), api.Answer{N: 2, M: 3}},
		told{reads(0, 2), none},
		told{writes(0, 2, most), none},
		told{reads(0, 2), api.Answer{V: most}},
		told{writes(0, 0, 7), none},
		told{reads(0, 0), api.Answer{V: 7}},
		told{reads(0, 2), api.Answer{V: most}},
		told{writes(0, 0, 0), none},
		told{reads(0, 0), none},
		told{allocates(1, 1, 0), none},
		told{lens(1), api.Answer{N: 1}},
		told{allocates(2, 0, 11), none},
		told{lens(2), api.Answer{M: 11}},
		told{sames(0, 1), no},
		told{sames(3, 3), yes},
		told{sames(1, 1), yes},
		told{sames(1, 3), no},
		told{stores(0, 1, 1), none},
		told{loads(3, 0, 1), none},
		told{sames(1, 3), yes},
		told{sames(3, 1), yes},
		told{loads(3, 0, 0), none},
		told{lens(3), fail(api.ErrNil)},
		told{copies(3, 0), none},
		told{lens(3), api.Answer{N: 2, M: 3}},
		told{sames(3, 0), yes},
		told{drops(0), none},
		told{drops(0), none},
		told{sames(3, 0), no},
		told{lens(0), fail(api.ErrNil)},
		told{reads(3, 2), api.Answer{V: most}},
		told{allocates(3, 0, 0), none},
		told{lens(3), none},
		told{ticks(), none},
		told{reads(2, 10), none},
	)
}

// P23.1: each number of an operation goes to its place: two slots, or a slot and a field, that would change places tell something else.
func TestDoEachNumberInItsPlace(t *testing.T) {
	none := api.Answer{}
	keep(t, small).tells(t,
		told{allocates(2, 1, 3), none},
		told{lens(2), api.Answer{N: 1, M: 3}},
		told{lens(1), fail(api.ErrNil)},
		told{allocates(1, 4, 0), none},
		told{lens(1), api.Answer{N: 4}},
		told{stores(1, 3, 2), none},
		told{stores(2, 0, 1), none},
		told{loads(0, 1, 3), none},
		told{sames(0, 2), api.Answer{N: 1}},
		told{loads(3, 2, 0), none},
		told{sames(3, 1), api.Answer{N: 1}},
		told{writes(2, 1, 3), none},
		told{reads(2, 1), api.Answer{V: 3}},
		told{reads(2, 2), none},
		told{copies(3, 2), none},
		told{sames(3, 2), api.Answer{N: 1}},
		told{drops(2), none},
		told{lens(3), api.Answer{N: 1, M: 3}},
		told{copies(1, 2), none},
		told{lens(1), fail(api.ErrNil)},
	)
}

// P23.1: what an operation's kind doesn't need makes no difference, nor does it whether there would be room for an Alloc.
func TestDoNeedless(t *testing.T) {
	none := api.Answer{}
	for _, n := range append([]int{0, 1, -1, 3}, far...) {
		k, v := keep(t, small), uint32(n)
		k.tells(t,
			told{api.Op{Kind: api.OpAlloc, A: 1, B: 1, C: 2, V: v}, none},
			told{api.Op{Kind: api.OpStore, A: 1, B: 0, C: 1, V: v}, none},
			told{api.Op{Kind: api.OpLoad, A: 2, B: 1, C: 0, V: v}, none},
			told{api.Op{Kind: api.OpWrite, A: 1, B: 1, C: n, V: 8}, none},
			told{api.Op{Kind: api.OpRead, A: 2, B: 1, C: n, V: v}, api.Answer{V: 8}},
			told{api.Op{Kind: api.OpCopy, A: 3, B: 2, C: n, V: v}, none},
			told{api.Op{Kind: api.OpSame, A: 3, B: 1, C: n, V: v}, api.Answer{N: 1}},
			told{api.Op{Kind: api.OpLen, A: 3, B: n, C: n, V: v}, api.Answer{N: 1, M: 2}},
			told{api.Op{Kind: api.OpTick, A: n, B: n, C: n, V: v}, none},
			told{api.Op{Kind: api.OpDrop, A: 3, B: n, C: n, V: v}, none},
		)
	}
}

// wrongOnes answers operations that are wrong, each with its error, where the slot 0 has an object of one field of each sort, the slot 1 one of none, and the slot 2 nothing.
func wrongOnes(c api.Conf) []told {
	all := (c.W - 8) * (c.W - 1)
	l := []told{
		{allocates(0, -1, 0), fail(api.ErrSize)}, {allocates(0, 0, -1), fail(api.ErrSize)}, {allocates(2, -1, all), fail(api.ErrSize)}, {allocates(2, 2, -1), fail(api.ErrSize)},
		{allocates(0, all+1, 0), fail(api.ErrSize)}, {allocates(0, 0, all+1), fail(api.ErrSize)}, {allocates(1, 1, all), fail(api.ErrSize)}, {allocates(1, all, 1), fail(api.ErrSize)}, {allocates(2, math.MaxInt, math.MaxInt), fail(api.ErrSize)},
	}
	for _, i := range append([]int{-1, 0, 1}, far...) {
		// What is nothing has no field at all, so that is told first.
		l = append(l, told{loads(0, 2, i), fail(api.ErrNil)}, told{stores(2, i, 0), fail(api.ErrNil)}, told{reads(2, i), fail(api.ErrNil)}, told{writes(2, i, 1), fail(api.ErrNil)})
		l = append(l, told{loads(2, 1, i), fail(api.ErrIndex)}, told{stores(1, i, 2), fail(api.ErrIndex)}, told{reads(1, i), fail(api.ErrIndex)}, told{writes(1, i, 1), fail(api.ErrIndex)})
		if i != 0 {
			l = append(l, told{loads(0, 0, i), fail(api.ErrIndex)}, told{stores(0, i, 0), fail(api.ErrIndex)}, told{reads(0, i), fail(api.ErrIndex)}, told{writes(0, i, 1), fail(api.ErrIndex)})
		}
	}
	l = append(l, told{lens(2), fail(api.ErrNil)})
	for _, s := range append([]int{-1, c.R, c.R + 1}, far...) {
		l = append(l,
			told{allocates(s, 1, 1), fail(api.ErrSlot)}, told{allocates(s, -1, 1), fail(api.ErrSlot)}, told{allocates(s, 0, all+1), fail(api.ErrSlot)},
			told{loads(s, 0, 0), fail(api.ErrSlot)}, told{loads(0, s, 0), fail(api.ErrSlot)}, told{loads(s, 2, 9), fail(api.ErrSlot)}, told{loads(s, 0, 9), fail(api.ErrSlot)}, told{loads(2, s, -1), fail(api.ErrSlot)},
			told{stores(s, 0, 0), fail(api.ErrSlot)}, told{stores(0, 0, s), fail(api.ErrSlot)}, told{stores(2, 9, s), fail(api.ErrSlot)}, told{stores(0, 9, s), fail(api.ErrSlot)}, told{stores(s, -1, s), fail(api.ErrSlot)},
			told{reads(s, 0), fail(api.ErrSlot)}, told{reads(s, -1), fail(api.ErrSlot)}, told{writes(s, 0, 1), fail(api.ErrSlot)}, told{writes(s, 9, 1), fail(api.ErrSlot)},
			told{copies(s, 0), fail(api.ErrSlot)}, told{copies(0, s), fail(api.ErrSlot)}, told{drops(s), fail(api.ErrSlot)},
			told{sames(s, 0), fail(api.ErrSlot)}, told{sames(0, s), fail(api.ErrSlot)}, told{sames(s, s), fail(api.ErrSlot)}, told{lens(s), fail(api.ErrSlot)},
		)
	}
	return l
}

// P23.1: each kind, done wrong in each way, and in two ways at once, tells the error that layer 21 names first, whatever room there is, and changes nothing.
func TestDoWrong(t *testing.T) {
	for _, c := range confs[1:] {
		k := keep(t, c)
		k.all(t, allocates(0, 1, 1), allocates(1, 0, 0), writes(0, 0, 5), stores(0, 0, 1))
		for _, full := range []bool{false, true} {
			for _, x := range wrongOnes(c) {
				k.fails(t, x.o, full, x.want.Err)
			}
		}
	}
}

// P23.1: an operation of another kind tells ErrOp, and changes nothing, whatever its numbers are.
func TestDoAnotherKind(t *testing.T) {
	for _, c := range confs {
		k := keep(t, c)
		k.all(t, allocates(0, 1, 3), writes(0, 1, 9), stores(0, 0, 0))
		for _, kind := range wrongKinds {
			for i, o := range []api.Op{{Kind: kind}, {Kind: kind, B: 1, V: 3}, {Kind: kind, A: -1, B: 1, C: 1}, {Kind: kind, A: c.R, B: math.MaxInt, C: math.MinInt, V: most}} {
				k.fails(t, o, i%2 == 0, api.ErrOp)
			}
		}
	}
}

// P23.1: an Alloc of each size that may be, the least and the greatest, is done where full is false, and tells ErrFull where it is true; of any other size it tells ErrSize in both.
func TestAllocFull(t *testing.T) {
	for _, c := range confs {
		k, all := keep(t, c), (c.W-8)*(c.W-1)
		for _, x := range [][2]int{{0, 0}, {1, 0}, {0, 1}, {c.W - 8, 0}, {1, c.W - 8}, {all, 0}, {0, all}, {all - 1, 1}, {1, all - 1}} {
			o := allocates(c.R-1, x[0], x[1])
			k.fails(t, o, true, api.ErrFull)
			k.all(t, o)
			// Nor is there room in a slot that holds something; what it holds stays.
			k.fails(t, o, true, api.ErrFull)
			if k.m.Slot(c.R-1) != k.m.Objects() {
				t.Errorf("%v: %v: the slot holds %d, of %d objects", c, o, k.m.Slot(c.R-1), k.m.Objects())
			}
		}
		for _, x := range [][2]int{{-1, 0}, {0, -1}, {all + 1, 0}, {0, all + 1}, {all, 1}, {1, all}, {-1, all}, {math.MinInt, 0}, {math.MaxInt, 1}} {
			for _, full := range []bool{false, true} {
				k.fails(t, allocates(0, x[0], x[1]), full, api.ErrSize)
				k.fails(t, allocates(c.R, x[0], x[1]), full, api.ErrSlot)
				k.fails(t, allocates(-1, 0, 0), full, api.ErrSlot)
			}
		}
	}
}

// P23.1: however many objects were made, whatever N is, an Alloc alone that is told so tells ErrFull; each has fields of its own, all of them 0.
func TestNoRoomIsToldAlone(t *testing.T) {
	k := keep(t, confs[0])
	for i := range 300 {
		k.does(t, allocates(0, 2, 2), false)
		k.does(t, writes(0, i%2, uint32(i+1)), i%3 == 0)
		k.does(t, stores(0, i%2, 0), i%3 == 1)
		k.fails(t, allocates(0, 1, 1), true, api.ErrFull)
	}
	if k.m.Objects() != 300 || k.m.Slot(0) != 300 || k.m.Live() != 1 {
		t.Errorf("%d objects, the slot holds %d, %d blocks", k.m.Objects(), k.m.Slot(0), k.m.Live())
	}
}

// P23.1: a Tick answers that all went well, and changes nothing, of no object, of some, and of what can't be reached any more.
func TestTick(t *testing.T) {
	k := keep(t, small)
	for _, o := range []api.Op{ticks(), allocates(0, 1, 1), stores(0, 0, 0), drops(0), allocates(1, 0, 9), drops(1)} {
		k.all(t, o)
		for i := range 5 {
			if a := k.does(t, ticks(), i%2 == 0); a != (api.Answer{}) {
				t.Errorf("%v", a)
			}
			k.alike(t)
		}
	}
	if k.m.Objects() != 2 {
		t.Errorf("%d objects", k.m.Objects())
	}
}

// P23.1: Load, Store and Copy that take away an object's last name: it is there as it was, but can't be reached.
func TestLastName(t *testing.T) {
	for _, x := range []struct {
		name   string
		o      api.Op
		ahead  []api.Op
		behind []int
	}{
		{"Load of nothing into its slot", loads(1, 0, 0), []api.Op{allocates(0, 1, 0), allocates(1, 1, 1)}, []int{1}},
		{"Load of another one into its slot", loads(1, 0, 0), []api.Op{allocates(0, 1, 0), stores(0, 0, 0), allocates(1, 1, 1)}, []int{1}},
		{"Load of its own field, to is from", loads(0, 0, 0), []api.Op{allocates(0, 1, 0), allocates(1, 0, 0), stores(0, 0, 1), drops(1)}, []int{2}},
		{"Load of its own field, which holds nothing", loads(0, 0, 0), []api.Op{allocates(0, 1, 0)}, nil},
		{"Store of nothing", stores(0, 0, 3), []api.Op{allocates(0, 1, 0), allocates(1, 1, 0), stores(0, 0, 1), drops(1)}, []int{1}},
		{"Store of another one", stores(0, 0, 1), []api.Op{allocates(0, 1, 0), allocates(1, 0, 0), stores(0, 0, 1), allocates(1, 0, 0)}, []int{1, 3}},
		{"Store of the one itself, to is from", stores(0, 0, 0), []api.Op{allocates(0, 1, 0), allocates(1, 0, 0), stores(0, 0, 1), drops(1)}, []int{1}},
		{"Copy of nothing", copies(0, 1), []api.Op{allocates(0, 1, 0), stores(0, 0, 0)}, nil},
		{"Copy of another one", copies(0, 1), []api.Op{allocates(0, 1, 0), allocates(1, 0, 0)}, []int{2}},
		{"Drop", drops(0), []api.Op{allocates(0, 1, 0), allocates(1, 1, 0), stores(0, 0, 1), stores(1, 0, 0), drops(1)}, nil},
	} {
		k := keep(t, small)
		k.all(t, x.ahead...)
		made := k.m.Objects()
		k.all(t, x.o)
		if l := k.m.Reach(); len(l) != len(x.behind) || k.m.Objects() != made {
			t.Errorf("%s: %v are reached, want %v; %d objects, of %d", x.name, l, x.behind, k.m.Objects(), made)
		}
		for _, i := range x.behind {
			if k.m.Names(i) == 0 {
				t.Errorf("%s: nobody names %d", x.name, i)
			}
		}
	}
}

// P23.1: Copy, Load and Store where to and from are one slot, and where nothing is held, which is an error of none of Copy, Drop and Same.
func TestOneSlotAndNothing(t *testing.T) {
	k := keep(t, small)
	k.all(t, copies(0, 0), copies(0, 1), drops(2), sames(0, 3))
	k.fails(t, loads(0, 0, 0), false, api.ErrNil)
	k.fails(t, stores(0, 0, 0), false, api.ErrNil)
	k.all(t, allocates(0, 2, 0), copies(0, 0), stores(0, 1, 0), loads(0, 0, 1))
	if k.m.Slot(0) != 1 || k.m.Names(1) != 2 {
		t.Errorf("%d, %d names", k.m.Slot(0), k.m.Names(1))
	}
	k.all(t, stores(0, 1, 3), loads(1, 0, 1), loads(0, 0, 0), copies(1, 0), copies(0, 1))
	if k.m.Slot(0) != 0 || len(k.m.Reach()) != 0 {
		t.Errorf("%d, %v", k.m.Slot(0), k.m.Reach())
	}
}

// P23.1: in long rows of any operations each tells what it has to, and changes just that.
func TestAnyOperations(t *testing.T) {
	for i, c := range confs {
		met := map[[2]int]int{}
		for seed := range 6 {
			k, next := keep(t, c), chance(uint32(100*i+seed))
			for range 400 {
				o, full := anyOp(next, c), next(5) == 0
				met[[2]int{o.Kind, int(k.does(t, o, full).Err)}]++
				k.alike(t)
			}
		}
		for kind := api.OpAlloc; kind <= api.OpTick; kind++ {
			if met[[2]int{kind, int(api.OK)}] < 10 || kind != api.OpTick && met[[2]int{kind, int(api.ErrSlot)}] < 2 {
				t.Errorf("%v: the kind %d was done too seldom: %v", c, kind, met)
			}
		}
		if met[[2]int{api.OpAlloc, int(api.ErrFull)}] < 10 || met[[2]int{api.OpAlloc, int(api.ErrSize)}] < 3 || met[[2]int{api.OpLoad, int(api.ErrNil)}] < 3 || met[[2]int{api.OpStore, int(api.ErrIndex)}] < 3 {
			t.Errorf("%v: that tells too little: %v", c, met)
		}
	}
}

// P23.1, and the document's P2: what an operation answers is what layer 22 tells of a heap, which takes back what nobody can reach, where full is whether that told ErrFull.
func TestDoAsAHeapDoes(t *testing.T) {
	full := 0
	for i, c := range append([]api.Conf{{N: 30, W: 16, R: 5, K: 20}, {N: 200, W: 16, R: 8, K: 400}}, confs...) {
		for seed := range 8 {
			h, err := heap.New(c)
			if err != api.OK {
				t.Fatal(c, err)
			}
			m, next := open(t, c), chance(uint32(1000*i+seed))
			for range 1500 {
				o := anyOp(next, c)
				want := op.Do(h, o)
				if want.Err == api.ErrFull {
					full++
				}
				if a := m.Do(o, want.Err == api.ErrFull); a != want {
					t.Fatalf("%v: %v: %v, but the heap %v", c, o, a, want)
				}
			}
			if m.Objects() < 40 && c.N > 2 || m.Live() > c.N {
				t.Errorf("%v: %d objects, %d blocks: that tells too little", c, m.Objects(), m.Live())
			}
		}
	}
	if full < 100 {
		t.Errorf("%d times there was no room: that tells too little", full)
	}
}
