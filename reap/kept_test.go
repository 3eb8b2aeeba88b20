package reap_test

import (
	"math"
	"slices"
	"testing"

	"quitrent/api"
	"quitrent/flood"
	"quitrent/ground"
	"quitrent/link"
	"quitrent/pool"
	"quitrent/reap"
	"quitrent/shape"
	"quitrent/tally"
	"quitrent/tint"
)

// small is a configuration whose words are soon compared; some has room for more objects. No two of a configuration's numbers are one.
var (
	small = api.Conf{N: 9, W: 16, R: 3, K: 2}
	some  = api.Conf{N: 40, W: 18, R: 5, K: 2}
)

// confs are configurations with one block, with the least width, with the greatest and with some between.
var confs = []api.Conf{{N: 1, W: 16, R: 1, K: 3}, small, some, {N: 300, W: 256, R: 7, K: 65536}}

// most is the greatest number that a word can hold.
const most = math.MaxUint32

// The registers of the grave, of the ring, and of an epoch.
const (
	graveFirst = 3 + iota
	graveLast
	graveLen
	pending
	ringFirst
	ringLast
	ringLen
	parity
	phase
	cursor
	cursorField
	scanned
	scannedField
)

// The bits of the marks in a tag's word.
const (
	color = 2 + iota
	counted
	shade
	dead
	inRing
)

// The words of a head that are the object's count, its shadow and who stands behind it in a row of blocks.
const (
	countAt = 3 + iota
	shadowAt
	linkAt
)

// The words of a head that are, in the ring, who stands ahead of it and behind, and, in the grave, how many pointer fields and leaves are left.
const (
	prev = 6
	next = 7
	left = 6
)

// kept is a ground with an opened pool, and beside it all words that have to stand in it.
type kept struct {
	g     *ground.Ground
	c     api.Conf
	words []uint32
}

// open answers a ground with an opened pool. Its blocks' words are some that are not 0, but for tags and the pool's links; so are its root slots, and the registers from 17 on.
func open(t *testing.T, c api.Conf) *kept {
	t.Helper()
	g, err := ground.New(c)
	if err != api.OK || !pool.Open(g) {
		t.Fatalf("%v: %d", c, err)
	}
	for b := range c.N {
		for w := range c.W {
			if w != 0 && w != linkAt {
				g.SetWord(b, w, uint32(b*c.W+w)*2654435761|1)
			}
		}
	}
	for i := range c.R {
		g.SetRoot(i, 70+i)
	}
	for r := 17; r < 24; r++ {
		g.SetReg(r, 500+r)
	}
	return &kept{g: g, c: c, words: g.Words()}
}

// read says that the words that stand there now are those that have to.
func (k *kept) read() {
	k.words = k.g.Words()
}

// load makes all words of the ground these.
func (k *kept) load(l []uint32) {
	k.g.Load(l)
	k.read()
}

// set makes v a word of an object's head.
func (k *kept) set(r, w, v int) {
	k.g.SetWord(r-1, w, uint32(v))
	k.put(r, w, v)
}

// setReg makes v a register.
func (k *kept) setReg(r, v int) {
	k.g.SetReg(r, v)
	k.words[r] = uint32(v)
}

// setMark makes v a mark of an object's tag.
func (k *kept) setMark(r, bit, v int) {
	k.set(r, 0, k.word(r, 0)&^(1<<bit)|v<<bit)
}

// setField lets the field i of r hold x, without a name more or less.
func (k *kept) setField(r, i, x int) {
	at, _ := k.field(r, i)
	k.g.Put(at, uint32(x))
	k.words[at] = uint32(x)
}

// name lets the field i of r hold x, and has it counted.
func (k *kept) name(t *testing.T, r, i, x int) {
	t.Helper()
	if err := link.Put(k.g, r, i, x); err != api.OK {
		t.Fatalf("%v: Put(%d, %d, %d): %d", k.c, r, i, x, err)
	}
	k.read()
}

// let takes a hold from an object.
func (k *kept) let(t *testing.T, r int) {
	t.Helper()
	if !link.Let(k.g, r) {
		t.Fatalf("%v: Let(%d)", k.c, r)
	}
	k.read()
}

// move lets the cursor be there.
func (k *kept) move(c, f int) {
	tint.Move(k.g, c, f)
	k.read()
}

// born has an object born. Its words are some that would name objects, if they were pointer fields.
func (k *kept) born(t *testing.T, nptr, ndata int) int {
	t.Helper()
	r, err := link.Born(k.g, nptr, ndata)
	if err != api.OK {
		t.Fatalf("%v: Born(%d, %d): %d", k.c, nptr, ndata, err)
	}
	k.read()
	for i := range ndata {
		k.setField(r, nptr+i, 1+i%k.c.N)
	}
	return r
}

// some has objects born of one block, of a head and one leaf, of a head and many, with and without fields of either kind, as far as there is room, and answers their references.
func (k *kept) some(t *testing.T) []int {
	t.Helper()
	var l []int
	for _, n := range [][2]int{{0, 0}, {3, 2}, {k.c.W - 8, 0}, {0, 3}, {k.c.W - 8, 1}, {0, 2 * k.c.W}, {1, 1}, {2 * k.c.W, 5}, {3 * (k.c.W - 1), 0}} {
		if blocks, err := shape.Blocks(k.c.W, n[0], n[1]); err == api.OK && blocks <= pool.Len(k.g) {
			l = append(l, k.born(t, n[0], n[1]))
		}
	}
	return l
}

// fill lets each field of these objects hold one of them, or nothing, without a name more or less.
func (k *kept) fill(l []int, by func(int) int) {
	for _, r := range l {
		for i := range k.word(r, 1) {
			x := 0
			if n := by(len(l) + 1); n > 0 {
				x = l[n-1]
			}
			k.setField(r, i, x)
		}
	}
}

// counts lets each of these objects be counted so many times, up to a bound, as it may be.
func (k *kept) counts(l []int, bound int, by func(int) int) {
	for _, r := range l {
		k.set(r, countAt, by(bound))
	}
}

// begin lets an epoch be at the start of its reaping; by its parity nobody is black who was ahead.
func (k *kept) begin() {
	tint.Turn(k.g)
	tint.Begin(k.g, api.Reaping)
	k.read()
}

// beginFlooded lets an epoch begin, does its count and its flood, and lets it be at the start of its reaping.
func (k *kept) beginFlooded() {
	tint.Turn(k.g)
	tint.Begin(k.g, api.Counting)
	for tally.Step(k.g) {
	}
	tint.Begin(k.g, api.Flooding)
	for flood.Step(k.g) {
	}
	tint.Begin(k.g, api.Reaping)
	k.read()
}

// at is where in the store a word of a block has to be.
func (k *kept) at(b, w int) int {
	return 24 + k.c.R + b*k.c.W + w
}

// word is what a word of an object's head has to be.
func (k *kept) word(r, w int) int {
	return int(k.words[k.at(r-1, w)])
}

// put says that a word of an object's head has to be v.
func (k *kept) put(r, w, v int) {
	k.words[k.at(r-1, w)] = uint32(v)
}

// is tells whether r has to be an object's reference.
func (k *kept) is(r int) bool {
	return r >= 1 && r <= k.c.N && (k.word(r, 0)&3 == api.Small || k.word(r, 0)&3 == api.Spine)
}

// bit is what a mark of an object has to be.
func (k *kept) bit(r, bit int) int {
	return k.word(r, 0) >> bit & 1
}

// mark tells whether a mark of an object has to be the parity.
func (k *kept) mark(r, bit int) bool {
	return uint32(k.bit(r, bit)) == k.words[parity]
}

// putBit says that a mark of an object has to be v.
func (k *kept) putBit(r, bit, v int) {
	k.put(r, 0, k.word(r, 0)&^(1<<bit)|v<<bit)
}

// leaves is of how many leaves an object has to have been made.
func (k *kept) leaves(r int) int {
	fields := k.word(r, 1) + k.word(r, 2)
	if fields <= k.c.W-8 {
		return 0
	}
	return (fields + k.c.W - 2) / (k.c.W - 1)
}

// field is where in the store a field of an object has to be, and whether its leaf wasn't shed.
func (k *kept) field(r, i int) (int, bool) {
	if k.leaves(r) == 0 {
		return k.at(r-1, 8+i), true
	}
	leaf := k.word(r, 8+i/(k.c.W-1))
	return k.at(leaf-1, 1+i%(k.c.W-1)), leaf != 0
}

// reap says that there has to be a step of the reaping, and tells whether there is one.
func (k *kept) reap() bool {
	if k.words[phase] != api.Reaping || k.words[cursor] >= uint32(k.c.N) {
		return false
	}
	r, f := int(k.words[cursor])+1, int(k.words[cursorField])
	if k.is(r) && k.bit(r, dead) == 0 && !k.mark(r, color) {
		if f < k.word(r, 1) {
			k.empty(r, f)
			k.words[cursorField]++
			return true
		}
		k.putBit(r, color, int(k.words[parity]))
	}
	k.words[cursor]++
	k.words[cursorField] = 0
	return true
}

// empty says that the field i of an object has to be 0, and whom it named has to have a name less.
func (k *kept) empty(r, i int) {
	at, ok := k.field(r, i)
	if !ok {
		return
	}
	x := int(k.words[at])
	k.words[at] = 0
	if !k.is(x) || k.word(x, countAt) == 0 {
		return
	}
	k.put(x, countAt, k.word(x, countAt)-1)
	if k.word(x, countAt) == 0 && k.bit(x, dead) == 0 {
		k.bury(x)
	}
}

// bury says that an object has to be buried.
func (k *kept) bury(x int) {
	k.putBit(x, dead, 1)
	k.cut(x)
	if k.words[scanned] == uint32(x) {
		k.words[scanned] = 0
	}
	k.put(x, left, k.word(x, 1))
	k.put(x, left+1, k.leaves(x))
	k.put(x, linkAt, 0)
	if last := int(k.words[graveLast]); last == 0 {
		k.words[graveFirst] = uint32(x)
	} else {
		k.put(last, linkAt, x)
	}
	k.words[graveLast] = uint32(x)
	k.words[graveLen]++
	k.words[pending] += uint32(1 + k.leaves(x))
}

// cut says that an object has to be out of the ring, if it stands there.
func (k *kept) cut(x int) {
	if k.bit(x, inRing) == 0 {
		return
	}
	ahead, behind := k.word(x, prev), k.word(x, next)
	if ahead == 0 {
		k.words[ringFirst] = uint32(behind)
	} else {
		k.put(ahead, next, behind)
	}
	if behind == 0 {
		k.words[ringLast] = uint32(ahead)
	} else {
		k.put(behind, prev, ahead)
	}
	k.putBit(x, inRing, 0)
	k.words[ringLen]--
}

// step does a step, and tells where it isn't as it has to be, or any word isn't behind it.
func (k *kept) step(t *testing.T) bool {
	t.Helper()
	want := k.reap()
	var ok bool
	k.metered(t, func() { ok = reap.Step(k.g) })
	if ok != want {
		t.Fatalf("%v: Step: %v", k.c, ok)
	}
	if got := k.g.Words(); !slices.Equal(got, k.words) {
		for i := range got {
			if got[i] != k.words[i] {
				t.Fatalf("%v: the word %d of the store is %d, not %d", k.c, i, got[i], k.words[i])
			}
		}
	}
	return ok
}

// must does a step that there has to be, behind which the cursor has to be there.
func (k *kept) must(t *testing.T, c, f int) {
	t.Helper()
	if !k.step(t) {
		t.Fatalf("%v: no step", k.c)
	}
	if at, field := tint.At(k.g); at != c || field != f {
		t.Fatalf("%v: the cursor is %d, %d, not %d, %d", k.c, at, field, c, f)
	}
}

// whole does steps till there is none, and answers how many there were, of which there may not be more than N times W.
func (k *kept) whole(t *testing.T) int {
	t.Helper()
	n := 0
	for k.step(t) {
		n++
	}
	if n > k.c.N*k.c.W {
		t.Errorf("%v: %d steps", k.c, n)
	}
	return n
}

// metered does a step, and tells where it makes more accesses than it may.
func (k *kept) metered(t *testing.T, call func()) {
	t.Helper()
	ahead := k.g.Meter()
	call()
	if n := k.g.Meter() - ahead; n > 96 {
		t.Errorf("%v: %d accesses", k.c, n)
	}
}

// chance answers a row of numbers that is the same at each run.
func chance(seed uint32) func(int) int {
	return func(bound int) int {
		seed = seed*1664525 + 1013904223
		return int(seed>>8) % bound
	}
}
