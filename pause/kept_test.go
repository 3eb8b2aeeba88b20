package pause_test

import (
	"math"
	"slices"
	"testing"

	"quitrent/api"
	"quitrent/heap"
	"quitrent/op"
	"quitrent/pause"
)

// The configurations of these tests: tight has one block, wide the greatest width, and quick and lazy the greatest and the least K.
var (
	tight = api.Conf{N: 1, W: 16, R: 2, K: 3}
	small = api.Conf{N: 9, W: 16, R: 4, K: 2}
	some  = api.Conf{N: 40, W: 18, R: 6, K: 7}
	quick = api.Conf{N: 30, W: 16, R: 3, K: 65536}
	lazy  = api.Conf{N: 200, W: 32, R: 5, K: 1}
	wide  = api.Conf{N: 700, W: 256, R: 4, K: 90}
)

// confs are these configurations.
var confs = []api.Conf{tight, small, some, quick, lazy, wide}

// most is the greatest number that a word can hold.
const most = math.MaxUint32

// far are numbers that are far from all that there is; some would be right, if they went round or were cut to fewer bits.
var far = []int{math.MinInt, math.MinInt + 1, -1 << 62, -1<<32 + 1, math.MinInt32, -1000, 1 << 20, math.MaxInt32, most, 1 << 32, 1<<32 + 1, 1<<32 + 10, 1 << 50, 1 << 62, math.MaxInt - 1, math.MaxInt}

// kinds are all kinds of operations.
var kinds = []int{api.OpAlloc, api.OpLoad, api.OpStore, api.OpRead, api.OpWrite, api.OpCopy, api.OpDrop, api.OpSame, api.OpLen, api.OpTick}

// wrongKinds are numbers that are no kinds of operations.
var wrongKinds = append([]int{0, -1, -2, -9, -10, 11, 12, 16, 255, 256, 257, 266}, far...)

// wrongConfs are configurations that may not be: each of the numbers too small, too great and far away, and too many words.
func wrongConfs() []api.Conf {
	var l []api.Conf
	for _, n := range append([]int{0, -1, api.MaxN + 1}, far...) {
		l = append(l,
			api.Conf{N: n, W: 16, R: 4, K: 2000},
			api.Conf{N: 100, W: n, R: 4, K: 2000},
			api.Conf{N: 100, W: 16, R: n, K: 2000},
			api.Conf{N: 100, W: 16, R: 4, K: n},
		)
	}
	return append(l,
		api.Conf{},
		api.Conf{N: 100, W: 15, R: 4, K: 2000},
		api.Conf{N: 100, W: 257, R: 4, K: 2000},
		api.Conf{N: 100, W: 16, R: 4097, K: 2000},
		api.Conf{N: 100, W: 16, R: 4, K: 65537},
		api.Conf{N: 262145, W: 16, R: 4, K: 2000},
		api.Conf{N: 16385, W: 256, R: 4, K: 2000},
	)
}

// allocates, loads and so on are the operations of each kind.
func allocates(slot, nptr, ndata int) api.Op {
	return api.Op{Kind: api.OpAlloc, A: slot, B: nptr, C: ndata}
}

func loads(to, from, i int) api.Op { return api.Op{Kind: api.OpLoad, A: to, B: from, C: i} }

func stores(to, i, from int) api.Op { return api.Op{Kind: api.OpStore, A: to, B: i, C: from} }

func reads(slot, i int) api.Op { return api.Op{Kind: api.OpRead, A: slot, B: i} }

func writes(slot, i int, v uint32) api.Op {
	return api.Op{Kind: api.OpWrite, A: slot, B: i, V: v}
}

func copies(to, from int) api.Op { return api.Op{Kind: api.OpCopy, A: to, B: from} }

func drops(slot int) api.Op { return api.Op{Kind: api.OpDrop, A: slot} }

func sames(a, b int) api.Op { return api.Op{Kind: api.OpSame, A: a, B: b} }

func lens(slot int) api.Op { return api.Op{Kind: api.OpLen, A: slot} }

func ticks() api.Op { return api.Op{Kind: api.OpTick} }

// newHeap answers a new heap.
func newHeap(t *testing.T, c api.Conf) *heap.Heap {
	t.Helper()
	h, err := heap.New(c)
	if err != api.OK {
		t.Fatalf("%v: %d", c, err)
	}
	return h
}

// blocksOf is of how many blocks the object of an Alloc is that tells no error.
func blocksOf(c api.Conf, o api.Op) int {
	if o.B+o.C <= c.W-8 {
		return 1
	}
	return 1 + (o.B+o.C+c.W-2)/(c.W-1)
}

// mayTake is how many accesses an operation may make that told err.
func mayTake(c api.Conf, o api.Op, err api.Errno) int {
	switch {
	case err != api.OK:
		return 512
	case o.Kind == api.OpAlloc:
		return 512 + blocksOf(c, o)*(256+100*(c.W+c.K))
	case o.Kind == api.OpTick:
		return 256 + 200*c.K
	}
	return 512
}

// model does operations on a heap by layer 22 alone, and keeps how many accesses each of them made.
type model struct {
	h    *heap.Heap
	took map[int][]int
	over map[int]int
}

func newModel(t *testing.T, c api.Conf) *model {
	t.Helper()
	return &model{newHeap(t, c), map[int][]int{}, map[int]int{}}
}

// do does an operation, and answers how many accesses it made, too.
func (m *model) do(o api.Op) (api.Answer, int) {
	ahead := m.h.Meter()
	a := op.Do(m.h, o)
	took := int(m.h.Meter() - ahead)
	m.took[o.Kind] = append(m.took[o.Kind], took)
	if took > mayTake(m.h.Conf(), o, a.Err) {
		m.over[o.Kind]++
	}
	return a, took
}

// lines answers the lines of all that was done.
func (m *model) lines() []pause.Line {
	var l []pause.Line
	for _, kind := range kinds {
		took := m.took[kind]
		if len(took) == 0 {
			continue
		}
		x := pause.Line{Kind: kind, Count: len(took), Worst: slices.Max(took), Over: m.over[kind]}
		for _, n := range took {
			x.Sum += n
		}
		l = append(l, x)
	}
	return l
}

// worst answers the greatest Worst of lines.
func worst(l []pause.Line) int {
	n := 0
	for _, x := range l {
		n = max(n, x.Worst)
	}
	return n
}

// sum answers the Sums of lines together.
func sum(l []pause.Line) int {
	n := 0
	for _, x := range l {
		n += x.Sum
	}
	return n
}

// line answers the line of a kind, or a zero one.
func line(l []pause.Line, kind int) pause.Line {
	for _, x := range l {
		if x.Kind == kind {
			return x
		}
	}
	return pause.Line{}
}

// chance answers a row of numbers that is the same at each run.
func chance(seed uint32) func(int) int {
	return func(bound int) int {
		seed = seed*1664525 + 1013904223
		return int(seed>>8) % bound
	}
}

// anyNumber answers a number that is mostly near, now and then none that there is, or far away.
func anyNumber(next func(int) int, bound int) int {
	switch next(24) {
	case 0:
		return far[next(len(far))]
	case 1:
		return next(3) - 1 + bound*next(2)
	}
	return next(bound)
}

// anyOp answers an operation on a heap of c, most of which are right; now and then one without a kind.
func anyOp(next func(int) int, c api.Conf) api.Op {
	slot := func() int { return anyNumber(next, c.R) }
	at := func() int { return anyNumber(next, 3) }
	switch next(16) {
	case 0, 1, 2:
		return allocates(slot(), anyNumber(next, 6), anyNumber(next, 3*c.W/2))
	case 3, 4:
		return loads(slot(), slot(), at())
	case 5, 6, 7, 8:
		return stores(slot(), at(), slot())
	case 9:
		return reads(slot(), at())
	case 10:
		return writes(slot(), at(), uint32(next(1<<16)*(most>>16)))
	case 11:
		return copies(slot(), slot())
	case 12:
		return drops(slot())
	case 13:
		return sames(slot(), slot())
	case 14:
		return []api.Op{lens(slot()), ticks()}[next(2)]
	}
	return api.Op{Kind: wrongKinds[next(len(wrongKinds))], A: slot(), B: slot(), C: at(), V: uint32(at())}
}

// anyOps answers so many of them.
func anyOps(next func(int) int, c api.Conf, many int) []api.Op {
	l := make([]api.Op, many)
	for i := range l {
		l[i] = anyOp(next, c)
	}
	return l
}
