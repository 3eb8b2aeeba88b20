package op_test

import (
	"math"
	"slices"
	"testing"

	"quitrent/api"
	"quitrent/heap"
)

// small is a configuration whose words are soon compared; confs are others with it, with one block and one slot, with the greatest width and with one between.
var (
	small = api.Conf{N: 9, W: 16, R: 4, K: 2}
	confs = []api.Conf{{N: 1, W: 16, R: 1, K: 3}, small, {N: 40, W: 18, R: 6, K: 7}, {N: 12, W: 256, R: 3, K: 65536}}
)

// most is the greatest number that a word can hold.
const most = math.MaxUint32

// far are numbers that are far from all that there is; some would be right, if they went round or were cut to fewer bits.
var far = []int{math.MinInt, math.MinInt + 1, -1 << 62, -1<<32 + 1, math.MinInt32, -1000, 1000, 1 << 20, math.MaxInt32, most, 1 << 32, 1<<32 + 1, 1<<32 + 10, 1 << 50, 1 << 62, math.MaxInt - 1, math.MaxInt}

// wrongKinds are numbers that are no kinds of operations.
var wrongKinds = append([]int{0, -1, -2, -9, -10, 11, 12, 16, 255, 256, 257, 266}, far...)

// kind is what the chapter says of a kind: its name, the numbers that it needs, and which of these are slots.
type kind struct {
	number      int
	name        string
	needs, slot string
}

// kinds are all kinds, in their order.
var kinds = []kind{
	{1, "alloc", "ABC", "A"},
	{2, "load", "ABC", "AB"},
	{3, "store", "ABC", "AC"},
	{4, "read", "AB", "A"},
	{5, "write", "ABV", "A"},
	{6, "copy", "AB", "AB"},
	{7, "drop", "A", "A"},
	{8, "same", "AB", "AB"},
	{9, "len", "A", "A"},
	{10, "tick", "", ""},
}

// field answers the number of an operation that is called so; a word as a number.
func field(o api.Op, name rune) int {
	switch name {
	case 'A':
		return o.A
	case 'B':
		return o.B
	case 'C':
		return o.C
	}
	return int(o.V)
}

// with answers an operation whose number of that name is n.
func with(o api.Op, name rune, n int) api.Op {
	switch name {
	case 'A':
		o.A = n
	case 'B':
		o.B = n
	case 'C':
		o.C = n
	default:
		o.V = uint32(n)
	}
	return o
}

// wants tells whether a kind needs the number of that name.
func (k kind) wants(name rune) bool {
	return slices.Contains([]rune(k.needs), name)
}

// made answers an operation of a kind, out of its numbers in the order A, B, C, V of those that it needs.
func (k kind) made(l ...int) api.Op {
	o := api.Op{Kind: k.number}
	for i, name := range k.needs {
		o = with(o, name, l[i])
	}
	return o
}

// stuffed answers an operation with what its kind doesn't need set to n.
func (k kind) stuffed(o api.Op, n int) api.Op {
	for _, name := range "ABCV" {
		if !k.wants(name) {
			o = with(o, name, n)
		}
	}
	return o
}

// allocates, loads and so on are the operations of each kind.
func allocates(slot, nptr, ndata int) api.Op {
	return api.Op{Kind: api.OpAlloc, A: slot, B: nptr, C: ndata}
}

func loads(to, from, i int) api.Op { return api.Op{Kind: api.OpLoad, A: to, B: from, C: i} }

func stores(to, i, from int) api.Op { return api.Op{Kind: api.OpStore, A: to, B: i, C: from} }

func reads(slot, i int) api.Op { return api.Op{Kind: api.OpRead, A: slot, B: i} }

func writes(slot, i int, v uint32) api.Op {
	return api.Op{Kind: api.OpWrite, A: slot, B: i, V: v}
}

func copies(to, from int) api.Op { return api.Op{Kind: api.OpCopy, A: to, B: from} }

func drops(slot int) api.Op { return api.Op{Kind: api.OpDrop, A: slot} }

func sames(a, b int) api.Op { return api.Op{Kind: api.OpSame, A: a, B: b} }

func lens(slot int) api.Op { return api.Op{Kind: api.OpLen, A: slot} }

func ticks() api.Op { return api.Op{Kind: api.OpTick} }

// call does an operation on a heap, by the call of its kind.
func call(h *heap.Heap, o api.Op) api.Answer {
	calls := map[int]func() api.Answer{
		1: func() api.Answer { return api.Answer{Err: h.Alloc(o.A, o.B, o.C)} },
		2: func() api.Answer { return api.Answer{Err: h.Load(o.A, o.B, o.C)} },
		3: func() api.Answer { return api.Answer{Err: h.Store(o.A, o.B, o.C)} },
		4: func() api.Answer {
			v, err := h.Read(o.A, o.B)
			return api.Answer{Err: err, V: v}
		},
		5: func() api.Answer { return api.Answer{Err: h.Write(o.A, o.B, o.V)} },
		6: func() api.Answer { return api.Answer{Err: h.Copy(o.A, o.B)} },
		7: func() api.Answer { return api.Answer{Err: h.Drop(o.A)} },
		8: func() api.Answer {
			n := map[bool]int{true: 1}
			same, err := h.Same(o.A, o.B)
			return api.Answer{Err: err, N: n[same]}
		},
		9: func() api.Answer {
			n, m, err := h.Len(o.A)
			return api.Answer{Err: err, N: n, M: m}
		},
		10: func() api.Answer { return api.Answer{Err: h.Tick()} },
	}
	if f := calls[o.Kind]; f != nil {
		return f()
	}
	return api.Answer{Err: api.ErrOp}
}

// open answers a new heap.
func open(t *testing.T, c api.Conf) *heap.Heap {
	t.Helper()
	h, err := heap.New(c)
	if err != api.OK {
		t.Fatalf("%v: %d", c, err)
	}
	return h
}

// twin answers another heap with the same words.
func twin(t *testing.T, h *heap.Heap) *heap.Heap {
	t.Helper()
	other, err := heap.Over(h.Conf(), h.Ground().Words())
	if err != api.OK {
		t.Fatalf("%v: %d", h.Conf(), err)
	}
	return other
}

// alike tells where two heaps that began with the same words have other ones, or made other many accesses meanwhile.
func alike(t *testing.T, o api.Op, h, other *heap.Heap, ahead uint64) {
	t.Helper()
	if !slices.Equal(h.Ground().Words(), other.Ground().Words()) {
		t.Fatalf("%v: %v: other words", h.Conf(), o)
	}
	if n := h.Meter() - ahead; n != other.Meter() {
		t.Errorf("%v: %v: %d accesses, not %d", h.Conf(), o, n, other.Meter())
	}
}

// chance answers a row of numbers that is the same at each run.
func chance(seed uint32) func(int) int {
	return func(bound int) int {
		seed = seed*1664525 + 1013904223
		return int(seed>>8) % bound
	}
}

// anyNumber answers a number that is mostly near, now and then none that a heap has, or far away.
func anyNumber(next func(int) int, bound int) int {
	switch next(20) {
	case 0:
		return far[next(len(far))]
	case 1:
		return next(3) - 1 + bound*next(2)
	}
	return next(bound)
}

// anyOp answers an operation on a heap of c, most of which are right; now and then one without a kind.
func anyOp(next func(int) int, c api.Conf) api.Op {
	slot := func() int { return anyNumber(next, c.R) }
	at := func() int { return anyNumber(next, 3) }
	switch next(12) {
	case 0, 1:
		return allocates(slot(), anyNumber(next, 6), anyNumber(next, 12))
	case 2:
		return loads(slot(), slot(), at())
	case 3, 4:
		return stores(slot(), at(), slot())
	case 5:
		return reads(slot(), at())
	case 6:
		return writes(slot(), at(), uint32(next(1<<16)*(most>>16)))
	case 7:
		return copies(slot(), slot())
	case 8:
		return drops(slot())
	case 9:
		return sames(slot(), slot())
	case 10:
		return []api.Op{lens(slot()), ticks()}[next(2)]
	}
	return api.Op{Kind: wrongKinds[next(len(wrongKinds))], A: slot(), B: slot(), C: at(), V: uint32(at())}
}
