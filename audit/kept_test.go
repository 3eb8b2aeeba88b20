package audit_test

import (
	"math"
	"slices"
	"testing"

	"quitrent/api"
	"quitrent/audit"
	"quitrent/grave"
	"quitrent/ground"
	"quitrent/heap"
	"quitrent/link"
	"quitrent/op"
	"quitrent/pool"
	"quitrent/ring"
)

// confs are configurations: of one block, of one slot, with the least and the greatest width, and with ones between. No two of a configuration's numbers are one, but of the first one.
var confs = []api.Conf{{N: 1, W: 16, R: 1, K: 1}, {N: 2, W: 16, R: 1, K: 3}, {N: 9, W: 16, R: 4, K: 2}, {N: 40, W: 18, R: 6, K: 7}, {N: 12, W: 256, R: 3, K: 65536}}

// most is the greatest number that a word can hold.
const most = math.MaxUint32

// far are numbers that are far from all kinds and slots; some would be one, if they went round or were cut to fewer bits.
var far = []int{math.MinInt, math.MinInt + 1, -1 << 62, -1<<32 + 1, math.MinInt32, -1000, 1 << 20, 1<<24 + 1, math.MaxInt32, most, 1 << 32, 1<<32 + 1, 1<<32 + 3, 1 << 50, 1 << 62, math.MaxInt - 1, math.MaxInt}

// The kinds of findings, by the numbers that the chapter gives them.
const (
	tagOf     = 1
	sizeOf    = 2
	linkOf    = 3
	leafOf    = 4
	nameOf    = 5
	rootOf    = 6
	countOf   = 7
	cleanOf   = 8
	graveOf   = 9
	ringOf    = 10
	pendingOf = 11
)

// at answers findings of one kind at those places.
func at(kind int, places ...int) []audit.Finding {
	var l []audit.Finding
	for _, place := range places {
		l = append(l, audit.Finding{Kind: kind, At: place})
	}
	return l
}

// bare answers a new ground whose pool is opened.
func bare(t *testing.T, c api.Conf) *ground.Ground {
	t.Helper()
	g, err := ground.New(c)
	if err != api.OK || !pool.Open(g) {
		t.Fatalf("%v: %d", c, err)
	}
	return g
}

// The objects of the sample, by their heads.
const (
	near  = 0  // of one block, with two pointer fields and one word: its fields hold other and itself
	wide  = 1  // with the leaves 2 and 3, ten pointer fields and 15 words: its fields 0 and 9 hold near and other
	other = 4  // of one block, with one pointer field, which holds wide
	gone  = 5  // with the leaves 6 and 7, 18 pointer fields and two words: it is dead, and its fields 0 and 16 hold other and near
	shed  = 8  // with the leaf 9, and 30 words: it is dead, and its leaf 10 is clean again
	lone  = 11 // of one block, with one pointer field, which holds itself: nothing else holds it
	plain = 12 // of one block, without fields
	free  = 13 // the first of those blocks behind which all are clean
)

// sampleConf is the sample's configuration.
var sampleConf = api.Conf{N: 24, W: 16, R: 5, K: 1}

// sample answers a sound ground in which all that there may be is found. Its slots 0, 1 and 2 hold near, wide and plain. Two lie in the grave, with five blocks that are pending; other, near and wide stand in the ring.
func sample(t *testing.T) *ground.Ground {
	t.Helper()
	g := bare(t, sampleConf)
	for i, size := range [][2]int{{2, 1}, {10, 15}, {1, 0}, {18, 2}, {0, 30}, {1, 0}, {0, 0}} {
		if r, err := link.Born(g, size[0], size[1]); err != api.OK || r-1 != []int{near, wide, other, gone, shed, lone, plain}[i] {
			t.Fatal(i, r, err)
		}
	}
	for _, f := range [][3]int{
		{near, 0, other}, {near, 1, near}, {wide, 0, near}, {wide, 9, other}, {other, 0, wide},
		{gone, 0, other}, {gone, 16, near}, {lone, 0, lone},
	} {
		if err := link.Put(g, f[0]+1, f[1], f[2]+1); err != api.OK {
			t.Fatal(f, err)
		}
	}
	for s, b := range []int{near, wide, plain} {
		g.SetRoot(s, b+1)
	}
	ok := link.Let(g, shed+1) && grave.Step(g)
	for _, b := range []int{gone, other, lone} {
		ok = ok && link.Let(g, b+1)
	}
	for _, b := range []int{other, near, wide} {
		ok = ok && ring.Add(g, b)
	}
	if !ok || grave.See(g) != 5 || pool.Len(g) != 12 || !slices.Equal(grave.List(g), []int{shed + 1, gone + 1}) {
		t.Fatal(ok, grave.See(g), pool.List(g), grave.List(g))
	}
	finds(t, g)
	return g
}

// finds tells where other findings are told of a ground than those, or than its words say, where an access is made, or a word is changed.
func finds(t *testing.T, g *ground.Ground, want ...[]audit.Finding) {
	t.Helper()
	l := check(t, g)
	if all := slices.Concat(want...); !slices.Equal(l, all) {
		t.Errorf("%v: %v, want %v", g.Conf(), l, all)
	}
}

// check answers what is found, and tells where that isn't what the words of the ground say, where an access is made, or a word is changed.
func check(t *testing.T, g *ground.Ground) []audit.Finding {
	t.Helper()
	x, meter := rawOf(g), g.Meter()
	l := audit.Check(g)
	if want := x.findings(); !slices.Equal(l, want) {
		t.Errorf("%v: %v, by its words %v", x.c, l, want)
	}
	if ok := audit.Sound(g); ok != (len(l) == 0) {
		t.Errorf("%v: sound: %t, with %v", x.c, ok, l)
	}
	if n := g.Meter(); n != meter {
		t.Errorf("%v: %d accesses", x.c, n-meter)
	}
	if !slices.Equal(g.Words(), x.l) {
		t.Errorf("%v: a word is changed", x.c)
	}
	return l
}

// raw are the words of a ground, out of which all is found once more.
type raw struct {
	c api.Conf
	l []uint32
}

// rawOf answers a ground's words.
func rawOf(g *ground.Ground) raw {
	return raw{g.Conf(), g.Words()}
}

// word is a word of a block, or 0 where there is none.
func (x raw) word(b, w int) int {
	if b < 0 || b >= x.c.N {
		return 0
	}
	return int(x.l[24+x.c.R+b*x.c.W+w])
}

// set makes v a word of a block.
func (x raw) set(b, w, v int) {
	x.l[24+x.c.R+b*x.c.W+w] = uint32(v)
}

// slots are what the root slots hold.
func (x raw) slots() []int {
	var l []int
	for _, v := range x.l[24 : 24+x.c.R] {
		l = append(l, int(v))
	}
	return l
}

// kind is the kind of a block whose tag is right, -1 of any other one and of what is no block.
func (x raw) kind(b int) int {
	w := x.word(b, 0)
	kind, marks, spare, owner := w%4, w/4%32, w/128%2, w/256
	right := b >= 0 && b < x.c.N && spare == 0
	switch kind {
	case 0:
		right = right && marks == 0 && owner == 0
	case 3:
		right = right && marks == 0 && owner < 1<<20
	default:
		right = right && owner == 0
	}
	if !right {
		return -1
	}
	return kind
}

// fields are how many fields a block has, if it is a sound head; else -1.
func (x raw) fields(b int) int {
	n := x.word(b, 1) + x.word(b, 2)
	small := n <= x.c.W-8
	if x.kind(b) == 1 && small || x.kind(b) == 2 && !small && n <= (x.c.W-8)*(x.c.W-1) {
		return n
	}
	return -1
}

// isHead tells whether a block is a sound head, and has that mark, if one is asked for.
func (x raw) isHead(b int, marks ...int) bool {
	for _, bit := range marks {
		if x.word(b, 0)>>bit%2 == 0 {
			return false
		}
	}
	return x.fields(b) >= 0
}

// The bits of the marks Dead and Ring.
const (
	deadBit = 5
	ringBit = 6
)

// leafWords are the leaf words of a block, if it is a sound head.
func (x raw) leafWords(b int) []int {
	var l []int
	for n := x.fields(b); n > 0 && x.kind(b) == 2; n -= x.c.W - 1 {
		l = append(l, x.word(b, 8+len(l)))
	}
	return l
}

// ptrs are what the pointer fields of a block hold, if it is a sound head.
func (x raw) ptrs(b int) []int {
	var l []int
	if !x.isHead(b) {
		return l
	}
	leaves := x.leafWords(b)
	for i := range x.word(b, 1) {
		if len(leaves) == 0 {
			l = append(l, x.word(b, 8+i))
		} else {
			l = append(l, x.word(leaves[i/(x.c.W-1)]-1, 1+i%(x.c.W-1)))
		}
	}
	return l
}

// times is how often n stands in a list.
func times(l []int, n int) int {
	many := 0
	for _, v := range l {
		if v == n {
			many++
		}
	}
	return many
}

// heads are all sound heads that have those marks.
func (x raw) heads(marks ...int) []int {
	var l []int
	for b := range x.c.N {
		if x.isHead(b, marks...) {
			l = append(l, b)
		}
	}
	return l
}

// isRow tells whether the three registers from reg on, and those words of blocks, are just as they were if all blocks of the list had been laid there in the order in which the words lead through them.
func (x raw) isRow(reg, next, prev int, l []int) bool {
	first := int(x.l[reg])
	var order []int
	for b := first - 1; b >= 0 && b < x.c.N && len(order) <= len(l); b = x.word(b, next) - 1 {
		order = append(order, b)
	}
	if !slices.Equal(slices.Sorted(slices.Values(order)), l) {
		return false
	}
	laid := raw{x.c, slices.Clone(x.l)}
	laid.l[reg], laid.l[reg+1], laid.l[reg+2] = 0, 0, uint32(len(l))
	ahead := 0
	for _, b := range order {
		if ahead == 0 {
			laid.l[reg] = uint32(b + 1)
		} else {
			laid.set(ahead-1, next, b+1)
		}
		if prev > 0 {
			laid.set(b, prev, ahead)
		}
		laid.set(b, next, 0)
		ahead = b + 1
	}
	laid.l[reg+1] = uint32(ahead)
	return slices.Equal(laid.l, x.l)
}

// findings are what Check has to answer.
func (x raw) findings() []audit.Finding {
	var l []audit.Finding
	find := func(kind, place int, found bool) {
		if found {
			l = append(l, audit.Finding{Kind: kind, At: place})
		}
	}
	held := x.slots()
	for b := range x.c.N {
		held = append(held, x.ptrs(b)...)
	}
	for kind := tagOf; kind <= countOf; kind++ {
		places := x.c.N
		if kind == rootOf {
			places = x.c.R
		}
		for place := range places {
			find(kind, place, x.isFound(kind, place, held))
		}
	}
	var clean []int
	for b := range x.c.N {
		if x.word(b, 0) == 0 {
			clean = append(clean, b)
		}
	}
	dead := x.heads(deadBit)
	pending := len(dead)
	for _, b := range dead {
		leaves := x.leafWords(b)
		pending += len(leaves) - times(leaves, 0)
	}
	find(cleanOf, 0, !x.isRow(0, 5, 0, clean))
	find(graveOf, 0, !x.isRow(3, 5, 0, dead))
	find(ringOf, 0, !x.isRow(7, 7, 6, x.heads(ringBit)))
	find(pendingOf, 0, int(x.l[6]) != pending)
	return l
}

// isFound tells whether something is found of a block, or of a slot, where slots and fields together hold what is held.
func (x raw) isFound(kind, place int, held []int) bool {
	switch kind {
	case tagOf:
		return x.kind(place) < 0
	case sizeOf:
		return (x.kind(place) == 1 || x.kind(place) == 2) && !x.isHead(place)
	case linkOf:
		return slices.ContainsFunc(x.leafWords(place), func(name int) bool {
			isLeaf := x.kind(name-1) == 3 && x.word(name-1, 0)/256 == place
			return !isLeaf && (name != 0 || !x.isHead(place, deadBit))
		})
	case leafOf:
		return x.kind(place) == 3 && times(x.leafWords(x.word(place, 0)/256), place+1) != 1
	case nameOf:
		return slices.ContainsFunc(x.ptrs(place), x.isWrong)
	case rootOf:
		return x.isWrong(x.slots()[place])
	}
	n := x.word(place, 3)
	return x.isHead(place) && (n != times(held, place+1) || (n == 0) != x.isHead(place, deadBit))
}

// isWrong tells whether neither slots nor fields may hold r.
func (x raw) isWrong(r int) bool {
	return r != 0 && (!x.isHead(r-1) || x.isHead(r-1, deadBit))
}

// chance answers a row of numbers that is the same at each run.
func chance(seed uint32) func(int) int {
	return func(bound int) int {
		seed = seed*1664525 + 1013904223
		return int(seed>>8) % bound
	}
}

// anyNumber answers a number that is mostly near, now and then none that there is, or far away.
func anyNumber(next func(int) int, bound int) int {
	switch next(24) {
	case 0:
		return far[next(len(far))]
	case 1:
		return next(3) - 1 + bound*next(2)
	}
	return next(bound)
}

// anyOp answers an operation on a heap of c, most of which are right.
func anyOp(next func(int) int, c api.Conf) api.Op {
	slot := func() int { return anyNumber(next, c.R) }
	field := func() int { return anyNumber(next, 3) }
	switch next(14) {
	case 0, 1:
		return api.Op{Kind: api.OpAlloc, A: slot(), B: anyNumber(next, 6), C: anyNumber(next, 12)}
	case 2:
		return api.Op{Kind: api.OpAlloc, A: slot(), B: anyNumber(next, c.W), C: anyNumber(next, 2*c.W)}
	case 3, 4:
		return api.Op{Kind: api.OpLoad, A: slot(), B: slot(), C: field()}
	case 5, 6, 7, 8:
		return api.Op{Kind: api.OpStore, A: slot(), B: field(), C: slot()}
	case 9:
		return api.Op{Kind: api.OpWrite, A: slot(), B: field(), V: uint32(anyNumber(next, 60))}
	case 10:
		return api.Op{Kind: api.OpCopy, A: slot(), B: slot()}
	case 11:
		return api.Op{Kind: api.OpDrop, A: slot()}
	case 12:
		return api.Op{Kind: api.OpTick}
	}
	return api.Op{Kind: anyNumber(next, 11), A: slot(), B: slot(), C: field()}
}

// anyHeap answers a heap behind so many operations.
func anyHeap(t *testing.T, next func(int) int, c api.Conf, turns int) *heap.Heap {
	t.Helper()
	h, err := heap.New(c)
	if err != api.OK {
		t.Fatalf("%v: %d", c, err)
	}
	for range turns {
		op.Do(h, anyOp(next, c))
	}
	return h
}
