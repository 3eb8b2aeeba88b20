package grave_test

import (
	"math"
	"slices"
	"testing"

	"quitrent/api"
	"quitrent/count"
	"quitrent/grave"
	"quitrent/ground"
	"quitrent/obj"
	"quitrent/pool"
	"quitrent/ring"
	"quitrent/shape"
)

// small is a configuration whose words are soon compared; some has room for more objects. No two of a configuration's numbers are one.
var (
	small = api.Conf{N: 9, W: 16, R: 3, K: 2}
	some  = api.Conf{N: 40, W: 18, R: 5, K: 2}
)

// confs are configurations with one block, with the least width, with the greatest and with some between.
var confs = []api.Conf{{N: 1, W: 16, R: 1, K: 3}, small, some, {N: 300, W: 256, R: 7, K: 65536}}

// most is the greatest number that a word can hold.
const most = math.MaxUint32

// The bits of the marks in a tag's word.
const (
	color = 2 + iota
	counted
	shade
	dead
	inRing
)

// far are numbers that are far from all that there is; some would be right, if they went round or were cut to fewer bits.
var far = []int{math.MinInt, math.MinInt + 1, math.MinInt + 2, -1 << 62, -1 << 32, -1<<32 + 1, math.MinInt32, -1000, -1, 0, 1 << 20, 1<<20 + 1, math.MaxInt32, most, 1 << 32, 1<<32 + 1, 1<<32 + 2, 1 << 50, 1 << 60, 1 << 62, math.MaxInt - 1, math.MaxInt}

// kept is a ground with an opened pool, and beside it what has to stand in it: all words, and the rows of blocks as plain lists.
type kept struct {
	g                 *ground.Ground
	c                 api.Conf
	words             []uint32
	pool, grave, ring []int
}

// open answers a ground with an opened pool. Its blocks' words are some that are not 0, but for tags and the pool's links; so are its root slots, and the registers from 15 on.
func open(t *testing.T, c api.Conf) *kept {
	t.Helper()
	g, err := ground.New(c)
	if err != api.OK || !pool.Open(g) {
		t.Fatalf("%v: %d", c, err)
	}
	k := &kept{g: g, c: c}
	for b := range c.N {
		for w := range c.W {
			if w != 0 && w != 5 {
				g.SetWord(b, w, uint32(b*c.W+w)*2654435761|1)
			}
		}
	}
	for i := range c.R {
		g.SetRoot(i, 70+i)
	}
	for r := 15; r < 24; r++ {
		g.SetReg(r, 500+r)
	}
	k.read()
	return k
}

// read says that what stands there now is what has to.
func (k *kept) read() {
	k.words, k.pool, k.ring = k.g.Words(), pool.List(k.g), ring.List(k.g)
	k.grave = nil
	for _, r := range grave.List(k.g) {
		k.grave = append(k.grave, r-1)
	}
}

// make answers a new object's reference. Its words, and the words of its head that are others' or nobody's yet, are some that are not 0.
func (k *kept) make(t *testing.T, nptr, ndata int) int {
	t.Helper()
	r, err := obj.Make(k.g, nptr, ndata)
	if err != api.OK {
		t.Fatalf("%v: Make(%d, %d): %d", k.c, nptr, ndata, err)
	}
	for i := range ndata {
		obj.SetData(k.g, r, i, uint32(r+i)*2246822519|1)
	}
	k.g.SetWord(r-1, 4, uint32(r)*31+7)
	k.g.SetWord(r-1, 6, uint32(r)*41+7)
	k.g.SetWord(r-1, 7, uint32(r)*43+7)
	k.read()
	return r
}

// name lets the field i of r hold x, and counts it where x is an object.
func (k *kept) name(t *testing.T, r, i, x int) {
	t.Helper()
	if err := obj.SetPtr(k.g, r, i, x); err != api.OK {
		t.Fatalf("%v: SetPtr(%d, %d, %d): %d", k.c, r, i, x, err)
	}
	count.Up(k.g, x)
	k.read()
}

// set makes v a word of an object's head.
func (k *kept) set(r, w, v int) {
	k.g.SetWord(r-1, w, uint32(v))
	k.words[k.at(r-1, w)] = uint32(v)
}

// setReg makes v a register.
func (k *kept) setReg(r, v int) {
	k.g.SetReg(r, v)
	k.words[r] = uint32(v)
}

// setMarks makes the marks Color, Count and Shade of an object those bits.
func (k *kept) setMarks(r, marks int) {
	k.set(r, 0, k.word(r-1, 0)&^(7<<color)|marks<<color)
}

// stand lets objects stand in the ring, in that order.
func (k *kept) stand(t *testing.T, refs ...int) {
	t.Helper()
	for _, r := range refs {
		if !ring.Add(k.g, r-1) {
			t.Fatalf("%v: %d doesn't come into the ring", k.c, r)
		}
	}
	k.read()
}

// some makes objects of one block, of a head and one leaf, of a head and many, with and without fields of either kind, as far as there is room, and answers their references.
func (k *kept) some(t *testing.T) []int {
	t.Helper()
	var l []int
	for _, n := range [][2]int{{0, 0}, {3, 2}, {k.c.W - 8, 0}, {0, 3}, {k.c.W - 8, 1}, {0, 2 * k.c.W}, {1, 1}, {2 * k.c.W, 5}, {3 * (k.c.W - 1), 0}} {
		if blocks, err := shape.Blocks(k.c.W, n[0], n[1]); err == api.OK && blocks <= len(k.pool) {
			l = append(l, k.make(t, n[0], n[1]))
		}
	}
	return l
}

// at is where in the store a word of a block has to be.
func (k *kept) at(b, w int) int {
	return 24 + k.c.R + b*k.c.W + w
}

// word is what a word of a block has to be.
func (k *kept) word(b, w int) int {
	return int(k.words[k.at(b, w)])
}

// is tells whether r has to be an object's reference.
func (k *kept) is(r int) bool {
	return r >= 1 && r <= k.c.N && (k.word(r-1, 0)&3 == api.Small || k.word(r-1, 0)&3 == api.Spine)
}

// mark is what a mark of an object has to be.
func (k *kept) mark(r, bit int) int {
	return k.word(r-1, 0) >> bit & 1
}

// count is what an object's count has to be, 0 of what is none.
func (k *kept) count(r int) int {
	if !k.is(r) {
		return 0
	}
	return k.word(r-1, 3)
}

// leaves is how many leaves an object was made with.
func (k *kept) leaves(r int) int {
	fields := k.word(r-1, 1) + k.word(r-1, 2)
	if fields <= k.c.W-8 {
		return 0
	}
	return (fields + k.c.W - 2) / (k.c.W - 1)
}

// field is where in the store a field of an object has to be, and whether its leaf wasn't shed.
func (k *kept) field(r, i int) (int, bool) {
	if k.leaves(r) == 0 {
		return k.at(r-1, 8+i), true
	}
	leaf := k.word(r-1, 8+i/(k.c.W-1))
	return k.at(leaf-1, 1+i%(k.c.W-1)), leaf != 0
}

// link says that a row of blocks has to stand in three registers from first on, and, where word isn't 0, by that word of each.
func (k *kept) link(first, word int, l []int) {
	k.words[first], k.words[first+1], k.words[first+2] = 0, 0, uint32(len(l))
	for i, b := range l {
		next := 0
		if i+1 < len(l) {
			next = l[i+1] + 1
		}
		k.words[k.at(b, word)] = uint32(next)
		k.words[first+1] = uint32(b + 1)
	}
	if len(l) > 0 {
		k.words[first] = uint32(l[0] + 1)
	}
}

// linkRing says that the ring's blocks have to stand there, by both words of each.
func (k *kept) linkRing() {
	k.link(7, 7, k.ring)
	ahead := 0
	for _, b := range k.ring {
		k.words[k.at(b, 6)] = uint32(ahead)
		ahead = b + 1
	}
}

// give says that a block has to be clean.
func (k *kept) give(b int) {
	k.words[k.at(b, 0)] = 0
	k.pool = slices.Insert(k.pool, 0, b)
	k.link(0, 5, k.pool)
	k.words[6]--
}

// bury says that an object has to be buried, if it isn't dead.
func (k *kept) bury(r int) bool {
	if !k.is(r) || k.mark(r, dead) == 1 {
		return false
	}
	if i := slices.Index(k.ring, r-1); i >= 0 {
		k.ring = slices.Delete(k.ring, i, i+1)
		k.linkRing()
	}
	if k.words[14] == uint32(r) {
		k.words[14] = 0
	}
	tag := &k.words[k.at(r-1, 0)]
	*tag = *tag&^(1<<inRing) | 1<<dead
	k.words[k.at(r-1, 6)], k.words[k.at(r-1, 7)] = uint32(k.word(r-1, 1)), uint32(k.leaves(r))
	k.grave = append(k.grave, r-1)
	k.link(3, 5, k.grave)
	k.words[6] += uint32(k.leaves(r) + 1)
	return true
}

// drain says that a field has to be drained.
func (k *kept) drain(r, i int) {
	at, ok := k.field(r, i)
	if !ok {
		return
	}
	x := int(k.words[at])
	k.words[at] = 0
	if k.count(x) == 0 {
		return
	}
	if k.wasCounted(r, i) {
		k.lighten(x)
	}
	k.words[k.at(x-1, 3)]--
	if k.count(x) == 0 {
		k.bury(x)
	}
}

// wasCounted tells whether a field of an object has to have been counted.
func (k *kept) wasCounted(r, i int) bool {
	byCursor := k.words[11] == api.Counting && int(k.words[12]) == r-1 && i < int(k.words[13])
	return k.mark(r, counted) == int(k.words[10]) || byCursor
}

// lighten says that an object's shadow has to be one less, if it has one that still counts.
func (k *kept) lighten(x int) {
	parity, phase, shadow := int(k.words[10]), k.words[11], k.at(x-1, 4)
	if (phase == api.Counting || phase == api.Flooding) && k.mark(x, color) != parity && k.mark(x, shade) == parity && k.words[shadow] > 0 {
		k.words[shadow]--
	}
}

// step says that a step has to be done, and tells whether one gives a block, and whether there is one.
func (k *kept) step() (given, ok bool) {
	if len(k.grave) == 0 {
		return false, false
	}
	b := k.grave[0]
	fields, leaves := &k.words[k.at(b, 6)], &k.words[k.at(b, 7)]
	spine := k.word(b, 0)&3 == api.Spine
	switch {
	case spine && *leaves > 0 && int(*fields) <= int(*leaves-1)*(k.c.W-1):
		*leaves--
		leaf := &k.words[k.at(b, 8+int(*leaves))]
		if *leaf == 0 {
			k.words[6]--
			return false, true
		}
		k.give(int(*leaf) - 1)
		*leaf = 0
		return true, true
	case *fields > 0:
		*fields--
		k.drain(b+1, int(*fields))
		return false, true
	}
	k.grave = k.grave[1:]
	k.link(3, 5, k.grave)
	k.give(b)
	return true, true
}

// check tells where the words are others than they should be, or a call tells what they don't say.
func (k *kept) check(t *testing.T, name string) {
	t.Helper()
	if got := k.g.Words(); !slices.Equal(got, k.words) {
		for i := range got {
			if got[i] != k.words[i] {
				t.Fatalf("%v, %s: the word %d of the store is %d, not %d", k.c, name, i, got[i], k.words[i])
			}
		}
	}
	var want []int
	for _, b := range k.grave {
		want = append(want, b+1)
	}
	var got []int
	var pending, seen int
	k.metered(t, "List and See", 0, func() { got, seen = grave.List(k.g), grave.See(k.g) })
	k.metered(t, "Pending", 1, func() { pending = grave.Pending(k.g) })
	if !slices.Equal(got, want) {
		t.Fatalf("%v, %s: List %v, not %v", k.c, name, got, want)
	}
	if pending != int(k.words[6]) || seen != pending {
		t.Fatalf("%v, %s: Pending %d, See %d, not %d", k.c, name, pending, seen, k.words[6])
	}
}

// metered does a call, and tells where it makes more accesses than it may.
func (k *kept) metered(t *testing.T, name string, bound int, call func()) {
	t.Helper()
	ahead := k.g.Meter()
	call()
	if n := k.g.Meter() - ahead; n > uint64(bound) {
		t.Errorf("%v, %s: %d accesses, more than %d", k.c, name, n, bound)
	}
}

// did does a call that has to answer want and to make at most so many accesses, and checks all words behind it.
func (k *kept) did(t *testing.T, name string, want bool, bound int, call func() bool) {
	t.Helper()
	var ok bool
	k.metered(t, name, bound, func() { ok = call() })
	if ok != want {
		t.Fatalf("%v: %s: %v", k.c, name, ok)
	}
	k.check(t, name)
}

// buried buries r, and tells where that isn't as it has to be.
func (k *kept) buried(t *testing.T, r int) bool {
	t.Helper()
	want := k.count(r) == 0 && k.bury(r)
	k.did(t, "Bury", want, 64, func() bool { return grave.Bury(k.g, r) })
	return want
}

// stepped does a step, likewise.
func (k *kept) stepped(t *testing.T) bool {
	t.Helper()
	_, want := k.step()
	k.did(t, "Step", want, 96, func() bool { return grave.Step(k.g) })
	return want
}

// released releases a block, likewise.
func (k *kept) released(t *testing.T) bool {
	t.Helper()
	given, ok := k.step()
	for ok && !given {
		given, ok = k.step()
	}
	k.did(t, "Release", given, 96*k.c.W, func() bool { return grave.Release(k.g) })
	return given
}

// emptied does all steps that there are, and answers how many these were.
func (k *kept) emptied(t *testing.T) int {
	t.Helper()
	n := 0
	for k.stepped(t) {
		n++
	}
	return n
}
