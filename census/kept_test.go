package census_test

import (
	"math"
	"slices"
	"testing"

	"quitrent/api"
	"quitrent/census"
	"quitrent/ground"
	"quitrent/heap"
	"quitrent/ideal"
	"quitrent/op"
)

// small is a configuration that is soon looked through; confs are others with it, with one slot, with the greatest width and with one between. No two of a configuration's numbers are one.
var (
	small = api.Conf{N: 9, W: 16, R: 4, K: 2}
	confs = []api.Conf{{N: 2, W: 16, R: 1, K: 3}, small, {N: 40, W: 18, R: 6, K: 7}, {N: 12, W: 256, R: 3, K: 65536}}
)

// most is the greatest number that a word can hold.
const most = math.MaxUint32

// far are numbers that are far from all that there is; some would be one, if they went round or were cut to fewer bits.
var far = []int{math.MinInt, math.MinInt + 1, -1 << 62, -1<<32 + 1, math.MinInt32, -1000, 1 << 20, 1<<24 + 1, math.MaxInt32, most, 1 << 32, 1<<32 + 1, 1<<32 + 3, 1 << 50, 1 << 62, math.MaxInt - 1, math.MaxInt}

// The states of blocks, by the numbers that the chapter gives them.
const (
	clean   = 0
	pending = 1
	used    = 2
	lost    = 3
	stray   = 4
)

// allocates, loads and so on are the operations of each kind.
func allocates(slot, nptr, ndata int) api.Op {
	return api.Op{Kind: api.OpAlloc, A: slot, B: nptr, C: ndata}
}

func loads(to, from, i int) api.Op { return api.Op{Kind: api.OpLoad, A: to, B: from, C: i} }

func stores(to, i, from int) api.Op { return api.Op{Kind: api.OpStore, A: to, B: i, C: from} }

func writes(slot, i int, v uint32) api.Op {
	return api.Op{Kind: api.OpWrite, A: slot, B: i, V: v}
}

func copies(to, from int) api.Op { return api.Op{Kind: api.OpCopy, A: to, B: from} }

func drops(slot int) api.Op { return api.Op{Kind: api.OpDrop, A: slot} }

func ticks() api.Op { return api.Op{Kind: api.OpTick} }

// both are a heap and an ideal one, which do the same.
type both struct {
	h *heap.Heap
	m *ideal.Ideal
	c api.Conf
}

// open answers a new heap and a new ideal one.
func open(t *testing.T, c api.Conf) *both {
	t.Helper()
	h, err := heap.New(c)
	m, wrong := ideal.New(c)
	if err != api.OK || wrong != api.OK {
		t.Fatalf("%v: %d, %d", c, err, wrong)
	}
	return &both{h, m, c}
}

// do lets both do an operation, and tells where they answer not the same.
func (k *both) do(t *testing.T, o api.Op) api.Answer {
	t.Helper()
	a := op.Do(k.h, o)
	if want := k.m.Do(o, a.Err == api.ErrFull); a != want {
		t.Fatalf("%v: %v: %v, not %v", k.c, o, a, want)
	}
	return a
}

// all lets both do operations, none of which tells an error, and checks what is told of the heap behind each.
func (k *both) all(t *testing.T, l ...api.Op) *both {
	t.Helper()
	for _, o := range l {
		if a := k.do(t, o); a.Err != api.OK {
			t.Fatalf("%v: %v: %d", k.c, o, a.Err)
		}
		check(t, k.h.Ground())
	}
	return k
}

// raw are the words of a ground, out of which all is told once more.
type raw struct {
	c api.Conf
	l []uint32
}

// rawOf answers a ground's words.
func rawOf(g *ground.Ground) raw {
	return raw{g.Conf(), g.Words()}
}

// word is a word of a block, or 0 where there is none.
func (x raw) word(b, w int) int {
	if b < 0 || b >= x.c.N {
		return 0
	}
	return int(x.l[24+x.c.R+b*x.c.W+w])
}

// isHead tells whether a block is of the kind Small or Spine.
func (x raw) isHead(b int) bool {
	kind := x.word(b, 0) % 4
	return kind == 1 || kind == 2
}

// isDead tells whether a block's mark Dead is 1.
func (x raw) isDead(b int) bool {
	return x.word(b, 0)>>5&1 == 1
}

// slots are what the root slots hold.
func (x raw) slots() []int {
	var l []int
	for _, v := range x.l[24 : 24+x.c.R] {
		l = append(l, int(v))
	}
	return l
}

// object is what the object with that head holds.
func (x raw) object(b int) api.Object {
	var o api.Object
	nptr, ndata := x.word(b, 1), x.word(b, 2)
	for i := range nptr + ndata {
		v := x.field(b, i, nptr+ndata)
		if i < nptr {
			o.Ptrs = append(o.Ptrs, v)
		} else {
			o.Data = append(o.Data, uint32(v))
		}
	}
	return o
}

// field is what the field i of so many holds.
func (x raw) field(b, i, fields int) int {
	if fields <= x.c.W-8 {
		return x.word(b, 8+i)
	}
	leaf := x.word(b, 8+i/(x.c.W-1)) - 1
	return x.word(leaf, 1+i%(x.c.W-1))
}

// blocks is of how many blocks the object with that head is.
func (x raw) blocks(b int) int {
	fields := x.word(b, 1) + x.word(b, 2)
	if fields <= x.c.W-8 {
		return 1
	}
	return 1 + (fields+x.c.W-2)/(x.c.W-1)
}

// live tells of each reference whether it can be reached.
func (x raw) live() map[int]bool {
	live := map[int]bool{}
	for _, r := range x.slots() {
		live[r] = true
	}
	for grown := true; grown; {
		grown = false
		for b := range x.c.N {
			if !live[b+1] || !x.isHead(b) {
				continue
			}
			for _, r := range x.object(b).Ptrs {
				grown = grown || !live[r]
				live[r] = true
			}
		}
	}
	return live
}

// items are what Items has to answer.
func (x raw) items() []census.Item {
	var l []census.Item
	live := x.live()
	for b := range x.c.N {
		if x.isHead(b) {
			l = append(l, census.Item{Ref: b + 1, Blocks: x.blocks(b), Count: x.word(b, 3), Dead: x.isDead(b), Live: live[b+1], Object: x.object(b)})
		}
	}
	return l
}

// state is what State has to answer, where so many can be reached.
func (x raw) state(b int, live map[int]bool) int {
	head := b
	if x.word(b, 0)%4 == 3 {
		head = x.word(b, 0) >> 8
	}
	switch {
	case x.word(b, 0)%4 == 0:
		return clean
	case head != b && x.word(head, 0)%4 != 2 || !x.isHead(head):
		return stray
	case x.isDead(head):
		return pending
	case live[head+1]:
		return used
	}
	return lost
}

// names is what Names has to answer of an object.
func (x raw) names(r int) int {
	all := x.slots()
	for b := range x.c.N {
		if x.isHead(b) {
			all = append(all, x.object(b).Ptrs...)
		}
	}
	n := 0
	for _, v := range all {
		if v == r {
			n++
		}
	}
	return n
}

// alikeItems tells whether two lists of items tell the same.
func alikeItems(l, m []census.Item) bool {
	return slices.EqualFunc(l, m, func(a, b census.Item) bool {
		same := a.Ref == b.Ref && a.Blocks == b.Blocks && a.Count == b.Count && a.Dead == b.Dead && a.Live == b.Live
		return same && slices.Equal(a.Object.Ptrs, b.Object.Ptrs) && slices.Equal(a.Object.Data, b.Object.Data)
	})
}

// check tells where something else is told of a ground than its words say, where an access is made, or a word is changed.
func check(t *testing.T, g *ground.Ground) {
	t.Helper()
	x, meter := rawOf(g), g.Meter()
	items, live, tally := x.items(), x.live(), [5]int{}
	if l := census.Items(g); !alikeItems(l, items) {
		t.Fatalf("%v: Items: %v, not %v", x.c, l, items)
	}
	var refs []int
	for b := range x.c.N {
		r, names := b+1, 0
		if x.isHead(b) {
			names = x.names(r)
			if live[r] {
				refs = append(refs, r)
			}
		}
		if n := census.Names(g, r); n != names {
			t.Fatalf("%v: %d names of %d, not %d", x.c, n, r, names)
		}
		state := x.state(b, live)
		tally[state]++
		if n, ok := census.State(g, b); n != state || !ok {
			t.Fatalf("%v: the block %d: %d, %t, not %d", x.c, b, n, ok, state)
		}
	}
	if l := census.Reach(g); !slices.Equal(l, refs) {
		t.Fatalf("%v: Reach: %v, not %v", x.c, l, refs)
	}
	if n := census.Tally(g); n != tally {
		t.Fatalf("%v: Tally: %v, not %v", x.c, n, tally)
	}
	untouched(t, g, x, meter)
}

// untouched tells where a ground has other words, or another meter.
func untouched(t *testing.T, g *ground.Ground, x raw, meter uint64) {
	t.Helper()
	if n := g.Meter(); n != meter {
		t.Fatalf("%v: %d accesses", x.c, n-meter)
	}
	if !slices.Equal(g.Words(), x.l) {
		t.Fatalf("%v: a word is changed", x.c)
	}
}

// drawn answers a list of numbers that is the same of all that are alike: in it each object has the number of its first mention.
func drawn(slots []int, see func(int) api.Object) []int {
	numbers, met := map[int]int{0: 0}, []int{}
	l := []int{len(slots)}
	mention := func(names []int) {
		for _, x := range names {
			if _, ok := numbers[x]; !ok {
				met = append(met, x)
				numbers[x] = len(met)
			}
			l = append(l, numbers[x])
		}
	}
	mention(slots)
	for at := 0; at < len(met); at++ {
		o := see(met[at])
		l = append(l, len(o.Ptrs), len(o.Data))
		mention(o.Ptrs)
		for _, v := range o.Data {
			l = append(l, int(v))
		}
	}
	return l
}

// drawnHere answers such a list of a ground.
func drawnHere(g *ground.Ground) []int {
	x := rawOf(g)
	return drawn(x.slots(), func(r int) api.Object { return x.object(r - 1) })
}

// drawnThere answers such a list of an ideal heap.
func drawnThere(m *ideal.Ideal) []int {
	var slots []int
	for s := range m.Slots() {
		slots = append(slots, m.Slot(s))
	}
	return drawn(slots, func(i int) api.Object {
		o, _ := m.See(i)
		return o
	})
}

// alike tells where a ground and an ideal heap are alike, but have not to be, or the other way round, or where one of them is changed by asking.
func alike(t *testing.T, g *ground.Ground, m *ideal.Ideal, want bool) {
	t.Helper()
	x, meter, there := rawOf(g), g.Meter(), drawnThere(m)
	if got := census.Alike(g, m); got != want {
		t.Fatalf("%v: alike: %t, not %t: %v, %v", x.c, got, want, drawnHere(g), there)
	}
	untouched(t, g, x, meter)
	if !slices.Equal(drawnThere(m), there) {
		t.Fatalf("%v: the ideal heap is changed", x.c)
	}
}

// chance answers a row of numbers that is the same at each run.
func chance(seed uint32) func(int) int {
	return func(bound int) int {
		seed = seed*1664525 + 1013904223
		return int(seed>>8) % bound
	}
}

// anyNumber answers a number that is mostly near, now and then none that there is, or far away.
func anyNumber(next func(int) int, bound int) int {
	switch next(24) {
	case 0:
		return far[next(len(far))]
	case 1:
		return next(3) - 1 + bound*next(2)
	}
	return next(bound)
}

// anyOp answers an operation on a heap of c, most of which are right.
func anyOp(next func(int) int, c api.Conf) api.Op {
	slot := func() int { return anyNumber(next, c.R) }
	at := func() int { return anyNumber(next, 3) }
	switch next(14) {
	case 0, 1, 2:
		return allocates(slot(), anyNumber(next, 6), anyNumber(next, 12))
	case 3, 4:
		return loads(slot(), slot(), at())
	case 5, 6, 7, 8:
		return stores(slot(), at(), slot())
	case 9:
		return writes(slot(), at(), uint32(next(4)))
	case 10:
		return copies(slot(), slot())
	case 11:
		return drops(slot())
	case 12:
		return ticks()
	}
	return api.Op{Kind: anyNumber(next, 11), A: slot(), B: slot(), C: at()}
}
