package flood_test

import (
	"math"
	"slices"
	"testing"

	"quitrent/api"
	"quitrent/flood"
	"quitrent/ground"
	"quitrent/link"
	"quitrent/pool"
	"quitrent/shape"
	"quitrent/tally"
	"quitrent/tint"
)

// small is a configuration whose words are soon compared; some has room for more objects. No two of a configuration's numbers are one.
var (
	small = api.Conf{N: 9, W: 16, R: 3, K: 2}
	some  = api.Conf{N: 40, W: 18, R: 5, K: 2}
)

// confs are configurations with one block, with the least width, with the greatest and with some between.
var confs = []api.Conf{{N: 1, W: 16, R: 1, K: 3}, small, some, {N: 300, W: 256, R: 7, K: 65536}}

// most is the greatest number that a word can hold.
const most = math.MaxUint32

// The registers of the ring, and of an epoch.
const (
	ringFirst = 7 + iota
	ringLast
	ringLen
	parity
	phase
	cursor
	cursorField
	scanned
	scannedField
)

// The bits of the marks in a tag's word.
const (
	color = 2 + iota
	counted
	shade
	dead
	inRing
)

// The words of a head that are the object's count, its shadow, and who stands in the ring ahead of it and behind.
const (
	countAt  = 3
	shadowAt = 4
	prev     = 6
	next     = 7
)

// kept is a ground with an opened pool, and beside it all words that have to stand in it.
type kept struct {
	g     *ground.Ground
	c     api.Conf
	words []uint32
}

// open answers a ground with an opened pool. Its blocks' words are some that are not 0, but for tags and the pool's links; so are its root slots, and the registers from 17 on.
func open(t *testing.T, c api.Conf) *kept {
	t.Helper()
	g, err := ground.New(c)
	if err != api.OK || !pool.Open(g) {
		t.Fatalf("%v: %d", c, err)
	}
	for b := range c.N {
		for w := range c.W {
			if w != 0 && w != 5 {
				g.SetWord(b, w, uint32(b*c.W+w)*2654435761|1)
			}
		}
	}
	for i := range c.R {
		g.SetRoot(i, 70+i)
	}
	for r := 17; r < 24; r++ {
		g.SetReg(r, 500+r)
	}
	return &kept{g: g, c: c, words: g.Words()}
}

// read says that the words that stand there now are those that have to.
func (k *kept) read() {
	k.words = k.g.Words()
}

// load makes all words of the ground these.
func (k *kept) load(l []uint32) {
	k.g.Load(l)
	k.read()
}

// set makes v a word of an object's head.
func (k *kept) set(r, w, v int) {
	k.g.SetWord(r-1, w, uint32(v))
	k.put(r, w, v)
}

// setReg makes v a register.
func (k *kept) setReg(r, v int) {
	k.g.SetReg(r, v)
	k.words[r] = uint32(v)
}

// setMark makes v a mark of an object's tag.
func (k *kept) setMark(r, bit, v int) {
	k.set(r, 0, k.word(r, 0)&^(1<<bit)|v<<bit)
}

// setField lets the field i of r hold x, without a name more or less.
func (k *kept) setField(r, i, x int) {
	at, _ := k.field(r, i)
	k.g.Put(at, uint32(x))
	k.words[at] = uint32(x)
}

// touched has an object stand in the ring, that isn't black ahead.
func (k *kept) touched(t *testing.T, r int) {
	t.Helper()
	if !tint.Touch(k.g, r) {
		t.Fatalf("%v: Touch of %d", k.c, r)
	}
	k.read()
}

// born has an object born. Its words are some that would name objects, if they were pointer fields.
func (k *kept) born(t *testing.T, nptr, ndata int) int {
	t.Helper()
	r, err := link.Born(k.g, nptr, ndata)
	if err != api.OK {
		t.Fatalf("%v: Born(%d, %d): %d", k.c, nptr, ndata, err)
	}
	k.read()
	for i := range ndata {
		k.setField(r, nptr+i, 1+i%k.c.N)
	}
	return r
}

// some has objects born of one block, of a head and one leaf, of a head and many, with and without fields of either kind, as far as there is room, and answers their references.
func (k *kept) some(t *testing.T) []int {
	t.Helper()
	var l []int
	for _, n := range [][2]int{{0, 0}, {3, 2}, {k.c.W - 8, 0}, {0, 3}, {k.c.W - 8, 1}, {0, 2 * k.c.W}, {1, 1}, {2 * k.c.W, 5}, {3 * (k.c.W - 1), 0}} {
		if blocks, err := shape.Blocks(k.c.W, n[0], n[1]); err == api.OK && blocks <= pool.Len(k.g) {
			l = append(l, k.born(t, n[0], n[1]))
		}
	}
	return l
}

// fill lets each field of these objects hold one of them, or nothing.
func (k *kept) fill(l []int, by func(int) int) {
	for _, r := range l {
		for i := range k.word(r, 1) {
			x := 0
			if n := by(len(l) + 1); n > 0 {
				x = l[n-1]
			}
			k.setField(r, i, x)
		}
	}
}

// begin lets an epoch be at the start of its flood; by its parity nobody is black, and no shadow is anything.
func (k *kept) begin() {
	tint.Turn(k.g)
	tint.Begin(k.g, api.Flooding)
	k.read()
}

// beginCounted lets an epoch begin, does its count, and lets it be at the start of its flood.
func (k *kept) beginCounted() {
	tint.Turn(k.g)
	tint.Begin(k.g, api.Counting)
	for tally.Step(k.g) {
	}
	tint.Begin(k.g, api.Flooding)
	k.read()
}

// at is where in the store a word of a block has to be.
func (k *kept) at(b, w int) int {
	return 24 + k.c.R + b*k.c.W + w
}

// word is what a word of an object's head has to be.
func (k *kept) word(r, w int) int {
	return int(k.words[k.at(r-1, w)])
}

// put says that a word of an object's head has to be v.
func (k *kept) put(r, w, v int) {
	k.words[k.at(r-1, w)] = uint32(v)
}

// is tells whether r has to be an object's reference.
func (k *kept) is(r int) bool {
	return r >= 1 && r <= k.c.N && (k.word(r, 0)&3 == api.Small || k.word(r, 0)&3 == api.Spine)
}

// bit is what a mark of an object has to be.
func (k *kept) bit(r, bit int) int {
	return k.word(r, 0) >> bit & 1
}

// mark tells whether a mark of an object has to be the parity.
func (k *kept) mark(r, bit int) bool {
	return uint32(k.bit(r, bit)) == k.words[parity]
}

// putBit says that a mark of an object has to be v.
func (k *kept) putBit(r, bit, v int) {
	k.put(r, 0, k.word(r, 0)&^(1<<bit)|v<<bit)
}

// shadow is what an object's shadow has to be.
func (k *kept) shadow(r int) int {
	if !k.mark(r, shade) {
		return 0
	}
	return k.word(r, shadowAt)
}

// field is where in the store a field of an object has to be, and whether its leaf wasn't shed.
func (k *kept) field(r, i int) (int, bool) {
	if k.word(r, 1)+k.word(r, 2) <= k.c.W-8 {
		return k.at(r-1, 8+i), true
	}
	leaf := k.word(r, 8+i/(k.c.W-1))
	return k.at(leaf-1, 1+i%(k.c.W-1)), leaf != 0
}

// holds is what the pointer field i of an object has to hold, 0 where its leaf was shed.
func (k *kept) holds(r, i int) int {
	at, ok := k.field(r, i)
	if !ok {
		return 0
	}
	return int(k.words[at])
}

// flood says that there has to be a step of the flood, and tells whether there is one.
func (k *kept) flood() bool {
	switch {
	case k.words[phase] != api.Flooding:
		return false
	case k.words[scanned] != 0:
		k.scan(int(k.words[scanned]), int(k.words[scannedField]))
	case k.words[ringFirst] != 0:
		k.words[scanned], k.words[scannedField] = uint32(k.take()), 0
	case k.words[cursor] < uint32(k.c.N):
		k.look(int(k.words[cursor]) + 1)
		k.words[cursor]++
	default:
		return false
	}
	return true
}

// scan says that the field i of the scanned object has to be looked at.
func (k *kept) scan(r, i int) {
	if i >= k.word(r, 1) {
		k.words[scanned] = 0
		return
	}
	k.touch(k.holds(r, i))
	k.words[scannedField]++
}

// look says that the block of the cursor has to be looked at, which would have the reference r.
func (k *kept) look(r int) {
	if !k.is(r) || k.bit(r, dead) == 1 {
		return
	}
	k.put(r, shadowAt, k.shadow(r))
	k.putBit(r, shade, int(k.words[parity]))
	if k.word(r, countAt) > k.word(r, shadowAt) {
		k.touch(r)
	}
}

// touch says that x has to be touched.
func (k *kept) touch(x int) {
	if !k.is(x) || k.bit(x, dead) == 1 || k.mark(x, color) {
		return
	}
	k.putBit(x, color, int(k.words[parity]))
	if k.bit(x, inRing) == 1 {
		return
	}
	k.putBit(x, inRing, 1)
	last := int(k.words[ringLast])
	k.put(x, prev, last)
	k.put(x, next, 0)
	if last == 0 {
		k.words[ringFirst] = uint32(x)
	} else {
		k.put(last, next, x)
	}
	k.words[ringLast] = uint32(x)
	k.words[ringLen]++
}

// take says that the first one of the ring has to be taken, and answers its reference.
func (k *kept) take() int {
	r := int(k.words[ringFirst])
	behind := k.word(r, next)
	k.words[ringFirst] = uint32(behind)
	if behind == 0 {
		k.words[ringLast] = 0
	} else {
		k.put(behind, prev, 0)
	}
	k.put(r, prev, 0)
	k.put(r, next, 0)
	k.putBit(r, inRing, 0)
	k.words[ringLen]--
	return r
}

// step does a step, and tells where it isn't as it has to be, or any word isn't behind it.
func (k *kept) step(t *testing.T) bool {
	t.Helper()
	want := k.flood()
	var ok bool
	k.metered(t, func() { ok = flood.Step(k.g) })
	if ok != want {
		t.Fatalf("%v: Step: %v", k.c, ok)
	}
	if got := k.g.Words(); !slices.Equal(got, k.words) {
		for i := range got {
			if got[i] != k.words[i] {
				t.Fatalf("%v: the word %d of the store is %d, not %d", k.c, i, got[i], k.words[i])
			}
		}
	}
	return ok
}

// must does a step that there has to be.
func (k *kept) must(t *testing.T) {
	t.Helper()
	if !k.step(t) {
		t.Fatalf("%v: no step", k.c)
	}
}

// whole does steps till there is none, and answers how many there were, of which there may not be more than N times W and 2.
func (k *kept) whole(t *testing.T) int {
	t.Helper()
	n := 0
	for k.step(t) {
		n++
	}
	if n > k.c.N*(k.c.W+2) {
		t.Errorf("%v: %d steps", k.c, n)
	}
	return n
}

// metered does a step, and tells where it makes more accesses than it may.
func (k *kept) metered(t *testing.T, call func()) {
	t.Helper()
	ahead := k.g.Meter()
	call()
	if n := k.g.Meter() - ahead; n > 96 {
		t.Errorf("%v: %d accesses", k.c, n)
	}
}

// chance answers a row of numbers that is the same at each run.
func chance(seed uint32) func(int) int {
	return func(bound int) int {
		seed = seed*1664525 + 1013904223
		return int(seed>>8) % bound
	}
}
