package twin_test

import (
	"math"
	"slices"
	"testing"

	"quitrent/api"
	"quitrent/census"
	"quitrent/heap"
	"quitrent/op"
	"quitrent/twin"
)

// The configurations of these tests: tight has one block, and two of the others no blocks that may be live either; pinch has one such block, roomy several; wide has the greatest width.
var (
	tight = api.Conf{N: 1, W: 16, R: 2, K: 3}
	small = api.Conf{N: 9, W: 16, R: 4, K: 2}
	some  = api.Conf{N: 40, W: 18, R: 6, K: 7}
	pinch = api.Conf{N: 21, W: 16, R: 3, K: 65536}
	roomy = api.Conf{N: 60, W: 17, R: 5, K: 2000}
	wide  = api.Conf{N: 700, W: 256, R: 4, K: 9000}
)

// spares are the configurations, and how many blocks may be live in each.
var spares = map[api.Conf]int{tight: 0, small: 0, some: 0, pinch: 1, roomy: 36, wide: 82}

// confs are the same configurations, in their order.
var confs = []api.Conf{tight, small, some, pinch, roomy, wide}

// most is the greatest number that a word can hold.
const most = math.MaxUint32

// far are numbers that are far from all that there is; some would be right, if they went round or were cut to fewer bits.
var far = []int{math.MinInt, math.MinInt + 1, -1 << 62, -1<<32 + 1, math.MinInt32, -1000, 1 << 20, math.MaxInt32, most, 1 << 32, 1<<32 + 1, 1<<32 + 10, 1 << 50, 1 << 62, math.MaxInt - 1, math.MaxInt}

// wrongKinds are numbers that are no kinds of operations.
var wrongKinds = append([]int{0, -1, -2, -9, -10, 11, 12, 16, 255, 256, 257, 266}, far...)

// wrongConfs are configurations that may not be: each of the numbers too small, too great and far away, and too many words.
func wrongConfs() []api.Conf {
	var l []api.Conf
	for _, n := range append([]int{0, -1, api.MaxN + 1}, far...) {
		l = append(l,
			api.Conf{N: n, W: 16, R: 4, K: 2000},
			api.Conf{N: 100, W: n, R: 4, K: 2000},
			api.Conf{N: 100, W: 16, R: n, K: 2000},
			api.Conf{N: 100, W: 16, R: 4, K: n},
		)
	}
	return append(l,
		api.Conf{},
		api.Conf{N: 100, W: 15, R: 4, K: 2000},
		api.Conf{N: 100, W: 257, R: 4, K: 2000},
		api.Conf{N: 100, W: 16, R: 4097, K: 2000},
		api.Conf{N: 100, W: 16, R: 4, K: 65537},
		api.Conf{N: 262145, W: 16, R: 4, K: 2000},
		api.Conf{N: 16385, W: 256, R: 4, K: 2000},
	)
}

// allocates, loads and so on are the operations of each kind.
func allocates(slot, nptr, ndata int) api.Op {
	return api.Op{Kind: api.OpAlloc, A: slot, B: nptr, C: ndata}
}

func loads(to, from, i int) api.Op { return api.Op{Kind: api.OpLoad, A: to, B: from, C: i} }

func stores(to, i, from int) api.Op { return api.Op{Kind: api.OpStore, A: to, B: i, C: from} }

func reads(slot, i int) api.Op { return api.Op{Kind: api.OpRead, A: slot, B: i} }

func writes(slot, i int, v uint32) api.Op {
	return api.Op{Kind: api.OpWrite, A: slot, B: i, V: v}
}

func copies(to, from int) api.Op { return api.Op{Kind: api.OpCopy, A: to, B: from} }

func drops(slot int) api.Op { return api.Op{Kind: api.OpDrop, A: slot} }

func sames(a, b int) api.Op { return api.Op{Kind: api.OpSame, A: a, B: b} }

func lens(slot int) api.Op { return api.Op{Kind: api.OpLen, A: slot} }

func ticks() api.Op { return api.Op{Kind: api.OpTick} }

// fails answers answers that have those errors, and nothing else.
func fails(l ...api.Errno) []api.Answer {
	var answers []api.Answer
	for _, e := range l {
		answers = append(answers, api.Answer{Err: e})
	}
	return answers
}

// play answers the report of a play, and tells where there is none, or the heap was wrong.
func play(t *testing.T, c api.Conf, l []api.Op) twin.Report {
	t.Helper()
	r, err := twin.Play(c, l)
	if err != api.OK {
		t.Fatalf("%v: %d", c, err)
	}
	if len(r.Answers) != len(l) {
		t.Fatalf("%v: %d answers, of %d operations", c, len(r.Answers), len(l))
	}
	if r.Wrong != -1 {
		t.Fatalf("%v: wrong behind the operation %d: %v, %v", c, r.Wrong, l[r.Wrong], r.Answers[r.Wrong])
	}
	return r
}

// alike tells whether two reports tell the same.
func alike(a, b twin.Report) bool {
	same := a.Full == b.Full && a.Wrong == b.Wrong && a.Most == b.Most && a.Lost == b.Lost && a.Bound == b.Bound
	return same && slices.Equal(a.Answers, b.Answers)
}

// blocksOf is of how many blocks the object of an operation is, if it is an Alloc of a size that an object may have; else 0.
func blocksOf(c api.Conf, o api.Op) int {
	all := (c.W - 8) * (c.W - 1)
	if o.Kind != api.OpAlloc || o.B < 0 || o.C < 0 || o.B > all || o.C > all-o.B {
		return 0
	}
	if o.B+o.C <= c.W-8 {
		return 1
	}
	return 1 + (o.B+o.C+c.W-2)/(c.W-1)
}

// reckoned answers what has to be reported, by a heap alone, and what is seen of its objects.
func reckoned(t *testing.T, c api.Conf, l []api.Op) twin.Report {
	t.Helper()
	h, err := heap.New(c)
	if err != api.OK {
		t.Fatalf("%v: %d", c, err)
	}
	r := twin.Report{Wrong: -1, Bound: -1}
	live := 0
	for i, o := range l {
		a := op.Do(h, o)
		ahead, lost := live, 0
		live = 0
		for _, x := range census.Items(h.Ground()) {
			if x.Live {
				live += x.Blocks
			} else if !x.Dead {
				lost += x.Blocks
			}
		}
		r.Answers = append(r.Answers, a)
		r.Most, r.Lost = max(r.Most, live), max(r.Lost, lost)
		if a.Err == api.ErrFull {
			r.Full++
		}
		if r.Bound == -1 && (live > spares[c] || ahead+blocksOf(c, o) > spares[c]) {
			r.Bound = i
		}
	}
	if r.Bound == -1 {
		r.Bound = len(l)
	}
	return r
}

// chance answers a row of numbers that is the same at each run.
func chance(seed uint32) func(int) int {
	return func(bound int) int {
		seed = seed*1664525 + 1013904223
		return int(seed>>8) % bound
	}
}

// anyNumber answers a number that is mostly near, now and then none that there is, or far away.
func anyNumber(next func(int) int, bound int) int {
	switch next(24) {
	case 0:
		return far[next(len(far))]
	case 1:
		return next(3) - 1 + bound*next(2)
	}
	return next(bound)
}

// anyOp answers an operation on a heap of c, most of which are right; now and then one without a kind.
func anyOp(next func(int) int, c api.Conf) api.Op {
	slot := func() int { return anyNumber(next, c.R) }
	at := func() int { return anyNumber(next, 3) }
	switch next(16) {
	case 0, 1, 2:
		return allocates(slot(), anyNumber(next, 6), anyNumber(next, 3*c.W/2))
	case 3, 4:
		return loads(slot(), slot(), at())
	case 5, 6, 7, 8:
		return stores(slot(), at(), slot())
	case 9:
		return reads(slot(), at())
	case 10:
		return writes(slot(), at(), uint32(next(1<<16)*(most>>16)))
	case 11:
		return copies(slot(), slot())
	case 12:
		return drops(slot())
	case 13:
		return sames(slot(), slot())
	case 14:
		return []api.Op{lens(slot()), ticks()}[next(2)]
	}
	return api.Op{Kind: wrongKinds[next(len(wrongKinds))], A: slot(), B: slot(), C: at(), V: uint32(at())}
}

// anyOps answers so many of them.
func anyOps(next func(int) int, c api.Conf, many int) []api.Op {
	l := make([]api.Op, many)
	for i := range l {
		l[i] = anyOp(next, c)
	}
	return l
}
