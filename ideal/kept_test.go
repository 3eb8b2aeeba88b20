package ideal_test

import (
	"maps"
	"math"
	"slices"
	"testing"

	"quitrent/api"
	"quitrent/ideal"
)

// small is a configuration whose slots are soon looked at; confs are others with it, with one slot, with the greatest width and with one between. No two of a configuration's numbers are one.
var (
	small = api.Conf{N: 9, W: 16, R: 4, K: 2}
	confs = []api.Conf{{N: 2, W: 16, R: 1, K: 3}, small, {N: 40, W: 18, R: 6, K: 7}, {N: 12, W: 256, R: 3, K: 65536}}
)

// most is the greatest number that a word can hold.
const most = math.MaxUint32

// far are numbers that are far from all that there is; some would be right, if they went round or were cut to fewer bits.
var far = []int{math.MinInt, math.MinInt + 1, -1 << 62, -1<<32 + 1, math.MinInt32, -1000, 1 << 20, math.MaxInt32, most, 1 << 32, 1<<32 + 1, 1<<32 + 10, 1 << 50, 1 << 62, math.MaxInt - 1, math.MaxInt}

// wrongKinds are numbers that are no kinds of operations.
var wrongKinds = append([]int{0, -1, -2, -9, -10, 11, 12, 16, 255, 256, 257, 266}, far...)

// allocates, loads and so on are the operations of each kind.
func allocates(slot, nptr, ndata int) api.Op {
	return api.Op{Kind: api.OpAlloc, A: slot, B: nptr, C: ndata}
}

func loads(to, from, i int) api.Op { return api.Op{Kind: api.OpLoad, A: to, B: from, C: i} }

func stores(to, i, from int) api.Op { return api.Op{Kind: api.OpStore, A: to, B: i, C: from} }

func reads(slot, i int) api.Op { return api.Op{Kind: api.OpRead, A: slot, B: i} }

func writes(slot, i int, v uint32) api.Op {
	return api.Op{Kind: api.OpWrite, A: slot, B: i, V: v}
}

func copies(to, from int) api.Op { return api.Op{Kind: api.OpCopy, A: to, B: from} }

func drops(slot int) api.Op { return api.Op{Kind: api.OpDrop, A: slot} }

func sames(a, b int) api.Op { return api.Op{Kind: api.OpSame, A: a, B: b} }

func lens(slot int) api.Op { return api.Op{Kind: api.OpLen, A: slot} }

func ticks() api.Op { return api.Op{Kind: api.OpTick} }

// slotsOf answers the slots that an operation is told.
func slotsOf(o api.Op) []int {
	switch o.Kind {
	case api.OpLoad, api.OpCopy, api.OpSame:
		return []int{o.A, o.B}
	case api.OpStore:
		return []int{o.A, o.C}
	case api.OpTick:
		return nil
	}
	return []int{o.A}
}

// fail answers an answer that has an error, and nothing else.
func fail(e api.Errno) api.Answer {
	return api.Answer{Err: e}
}

// open answers a new ideal heap.
func open(t *testing.T, c api.Conf) *ideal.Ideal {
	t.Helper()
	m, err := ideal.New(c)
	if err != api.OK || m == nil {
		t.Fatalf("%v: %d", c, err)
	}
	return m
}

// thing is an object as it has to be: its number, what its pointer fields hold, nil where that is nothing, and its words.
type thing struct {
	number int
	ptrs   []*thing
	data   []uint32
}

// kept is an ideal heap, and beside it what it has to be.
type kept struct {
	m     *ideal.Ideal
	c     api.Conf
	slots []*thing
	made  []*thing
}

// keep answers a new ideal heap, and beside it what it has to be.
func keep(t *testing.T, c api.Conf) *kept {
	t.Helper()
	return &kept{m: open(t, c), c: c, slots: make([]*thing, c.R)}
}

// copied answers another ideal heap that was copied of this one, and beside it what that has to be.
func (k *kept) copied() *kept {
	n := &kept{m: k.m.Copy(), c: k.c}
	for _, x := range k.made {
		n.made = append(n.made, &thing{x.number, nil, slices.Clone(x.data)})
	}
	for i, x := range k.made {
		n.made[i].ptrs = n.those(x.ptrs)
	}
	n.slots = n.those(k.slots)
	return n
}

// those answers the objects of the same numbers.
func (k *kept) those(l []*thing) []*thing {
	own := make([]*thing, len(l))
	for i, x := range l {
		if x != nil {
			own[i] = k.made[x.number-1]
		}
	}
	return own
}

// blocks is of how many blocks an object with so many fields is.
func (k *kept) blocks(fields int) int {
	if fields <= k.c.W-8 {
		return 1
	}
	return 1 + (fields+k.c.W-2)/(k.c.W-1)
}

// wrong answers the error that an operation has to tell.
func (k *kept) wrong(o api.Op, full bool) api.Errno {
	if o.Kind < api.OpAlloc || o.Kind > api.OpTick {
		return api.ErrOp
	}
	for _, s := range slotsOf(o) {
		if s < 0 || s >= k.c.R {
			return api.ErrSlot
		}
	}
	switch o.Kind {
	case api.OpAlloc:
		if all := (k.c.W - 8) * (k.c.W - 1); o.B < 0 || o.C < 0 || o.B > all || o.C > all-o.B {
			return api.ErrSize
		}
		if full {
			return api.ErrFull
		}
	case api.OpLoad:
		return k.wrongIn(o.B, o.C, func(x *thing) int { return len(x.ptrs) })
	case api.OpStore:
		return k.wrongIn(o.A, o.B, func(x *thing) int { return len(x.ptrs) })
	case api.OpRead, api.OpWrite:
		return k.wrongIn(o.A, o.B, func(x *thing) int { return len(x.data) })
	case api.OpLen:
		return k.wrongIn(o.A, 0, func(*thing) int { return 1 })
	}
	return api.OK
}

// wrongIn answers the error that looking into a slot's object has to tell, which has so many fields.
func (k *kept) wrongIn(slot, i int, fields func(*thing) int) api.Errno {
	if k.slots[slot] == nil {
		return api.ErrNil
	}
	if i < 0 || i >= fields(k.slots[slot]) {
		return api.ErrIndex
	}
	return api.OK
}

// answer answers what an operation has to answer, and changes what the ideal heap has to be behind it.
func (k *kept) answer(o api.Op, full bool) api.Answer {
	if err := k.wrong(o, full); err != api.OK {
		return fail(err)
	}
	switch o.Kind {
	case api.OpAlloc:
		x := &thing{len(k.made) + 1, make([]*thing, o.B), make([]uint32, o.C)}
		k.made = append(k.made, x)
		k.slots[o.A] = x
	case api.OpLoad:
		k.slots[o.A] = k.slots[o.B].ptrs[o.C]
	case api.OpStore:
		k.slots[o.A].ptrs[o.B] = k.slots[o.C]
	case api.OpRead:
		return api.Answer{V: k.slots[o.A].data[o.B]}
	case api.OpWrite:
		k.slots[o.A].data[o.B] = o.V
	case api.OpCopy:
		k.slots[o.A] = k.slots[o.B]
	case api.OpDrop:
		k.slots[o.A] = nil
	case api.OpSame:
		if k.slots[o.A] == k.slots[o.B] {
			return api.Answer{N: 1}
		}
	case api.OpLen:
		return api.Answer{N: len(k.slots[o.A].ptrs), M: len(k.slots[o.A].data)}
	}
	return api.Answer{}
}

// does does an operation, and tells where it answers something else than it has to.
func (k *kept) does(t *testing.T, o api.Op, full bool) api.Answer {
	t.Helper()
	want := k.answer(o, full)
	got := k.m.Do(o, full)
	if got != want {
		t.Fatalf("%v: %v, %t: %v, not %v", k.c, o, full, got, want)
	}
	return got
}

// all does operations one behind the other, none of which tells an error, and tells where the ideal heap isn't as it has to be behind one.
func (k *kept) all(t *testing.T, l ...api.Op) {
	t.Helper()
	for _, o := range l {
		if a := k.does(t, o, false); a.Err != api.OK {
			t.Fatalf("%v: %v: %d", k.c, o, a.Err)
		}
		k.alike(t)
	}
}

// fails does an operation that has to tell an error, and change nothing.
func (k *kept) fails(t *testing.T, o api.Op, full bool, want api.Errno) {
	t.Helper()
	if a := k.does(t, o, full); a != fail(want) {
		t.Errorf("%v: %v, %t: %v, not %d", k.c, o, full, a, want)
	}
	k.alike(t)
}

// reached answers how often slots, and fields of what can be reached, name each object that can be reached.
func (k *kept) reached() map[*thing]int {
	names := map[*thing]int{}
	rest := slices.Clone(k.slots)
	for len(rest) > 0 {
		x := rest[len(rest)-1]
		rest = rest[:len(rest)-1]
		if x == nil {
			continue
		}
		if names[x]++; names[x] == 1 {
			rest = append(rest, x.ptrs...)
		}
	}
	return names
}

// named is what names an object: its number, or 0 of nothing.
func (x *thing) named() int {
	if x == nil {
		return 0
	}
	return x.number
}

// numbers answers the numbers of objects, 0 of nothing.
func numbers(l []*thing) []int {
	n := make([]int, len(l))
	for i, x := range l {
		n[i] = x.named()
	}
	return n
}

// alike tells where the ideal heap isn't as it has to be.
func (k *kept) alike(t *testing.T) {
	t.Helper()
	for i, want := range numbers(k.slots) {
		if n := k.m.Slot(i); n != want {
			t.Fatalf("%v: the slot %d holds %d, not %d", k.c, i, n, want)
		}
	}
	if n := k.m.Slots(); n != k.c.R {
		t.Fatalf("%v: %d slots", k.c, n)
	}
	if n := k.m.Objects(); n != len(k.made) {
		t.Fatalf("%v: %d objects, not %d", k.c, n, len(k.made))
	}
	for _, x := range k.made {
		o, ok := k.m.See(x.number)
		if !ok || !slices.Equal(o.Ptrs, numbers(x.ptrs)) || !slices.Equal(o.Data, x.data) {
			t.Fatalf("%v: the object %d: %v, %t, not %v", k.c, x.number, o, ok, x)
		}
	}
	names, live := k.reached(), 0
	for x := range names {
		live += k.blocks(len(x.ptrs) + len(x.data))
	}
	if n := k.m.Live(); n != live {
		t.Fatalf("%v: Live is %d, not %d", k.c, n, live)
	}
	if l, want := k.m.Reach(), slices.Sorted(maps.Keys(byNumber(names))); !slices.Equal(l, want) {
		t.Fatalf("%v: Reach: %v, not %v", k.c, l, want)
	}
	k.alikeNames(t, names)
}

// byNumber answers for the numbers of objects what is told for these.
func byNumber(names map[*thing]int) map[int]int {
	by := map[int]int{}
	for x, n := range names {
		by[x.number] = n
	}
	return by
}

// alikeNames tells where Names of some objects isn't as it has to be: of all where they are few, else of the first and the last ones.
func (k *kept) alikeNames(t *testing.T, names map[*thing]int) {
	t.Helper()
	by := byNumber(names)
	for i := -1; i <= len(k.made)+1; i++ {
		if i == 12 && len(k.made) > 24 {
			i = len(k.made) - 12
		}
		if n := k.m.Names(i); n != by[i] {
			t.Fatalf("%v: %d names of %d, not %d", k.c, n, i, by[i])
		}
	}
}

// chance answers a row of numbers that is the same at each run.
func chance(seed uint32) func(int) int {
	return func(bound int) int {
		seed = seed*1664525 + 1013904223
		return int(seed>>8) % bound
	}
}

// anyNumber answers a number that is mostly near, now and then none that there is, or far away.
func anyNumber(next func(int) int, bound int) int {
	switch next(24) {
	case 0:
		return far[next(len(far))]
	case 1:
		return next(3) - 1 + bound*next(2)
	}
	return next(bound)
}

// anyOp answers an operation on a heap of c, most of which are right; now and then one without a kind.
func anyOp(next func(int) int, c api.Conf) api.Op {
	slot := func() int { return anyNumber(next, c.R) }
	at := func() int { return anyNumber(next, 3) }
	switch next(16) {
	case 0, 1, 2:
		return allocates(slot(), anyNumber(next, 6), anyNumber(next, 12))
	case 3, 4:
		return loads(slot(), slot(), at())
	case 5, 6, 7, 8:
		return stores(slot(), at(), slot())
	case 9:
		return reads(slot(), at())
	case 10:
		return writes(slot(), at(), uint32(next(1<<16)*(most>>16)))
	case 11:
		return copies(slot(), slot())
	case 12:
		return drops(slot())
	case 13:
		return sames(slot(), slot())
	case 14:
		return []api.Op{lens(slot()), ticks()}[next(2)]
	}
	return api.Op{Kind: wrongKinds[next(len(wrongKinds))], A: slot(), B: slot(), C: at(), V: uint32(at())}
}
