package tally_test

import (
	"math"
	"slices"
	"testing"

	"quitrent/api"
	"quitrent/ground"
	"quitrent/link"
	"quitrent/pool"
	"quitrent/shape"
	"quitrent/tally"
	"quitrent/tint"
)

// small is a configuration whose words are soon compared; some has room for more objects. No two of a configuration's numbers are one.
var (
	small = api.Conf{N: 9, W: 16, R: 3, K: 2}
	some  = api.Conf{N: 40, W: 18, R: 5, K: 2}
)

// confs are configurations with one block, with the least width, with the greatest and with some between.
var confs = []api.Conf{{N: 1, W: 16, R: 1, K: 3}, small, some, {N: 300, W: 256, R: 7, K: 65536}}

// most is the greatest number that a word can hold.
const most = math.MaxUint32

// The registers of an epoch.
const (
	parity = 10 + iota
	phase
	cursor
	cursorField
)

// The bits of the marks in a tag's word.
const (
	color = 2 + iota
	counted
	shade
	dead
	inRing
)

// kept is a ground with an opened pool, and beside it all words that have to stand in it.
type kept struct {
	g     *ground.Ground
	c     api.Conf
	words []uint32
}

// open answers a ground with an opened pool. Its blocks' words are some that are not 0, but for tags and the pool's links; so are its root slots, and the registers from 17 on.
func open(t *testing.T, c api.Conf) *kept {
	t.Helper()
	g, err := ground.New(c)
	if err != api.OK || !pool.Open(g) {
		t.Fatalf("%v: %d", c, err)
	}
	for b := range c.N {
		for w := range c.W {
			if w != 0 && w != 5 {
				g.SetWord(b, w, uint32(b*c.W+w)*2654435761|1)
			}
		}
	}
	for i := range c.R {
		g.SetRoot(i, 70+i)
	}
	for r := 17; r < 24; r++ {
		g.SetReg(r, 500+r)
	}
	return &kept{g: g, c: c, words: g.Words()}
}

// read says that the words that stand there now are those that have to.
func (k *kept) read() {
	k.words = k.g.Words()
}

// set makes v a word of an object's head.
func (k *kept) set(r, w, v int) {
	k.g.SetWord(r-1, w, uint32(v))
	k.words[k.at(r-1, w)] = uint32(v)
}

// setReg makes v a register.
func (k *kept) setReg(r, v int) {
	k.g.SetReg(r, v)
	k.words[r] = uint32(v)
}

// setMark makes v a mark of an object's tag.
func (k *kept) setMark(r, bit, v int) {
	k.set(r, 0, k.word(r-1, 0)&^(1<<bit)|v<<bit)
}

// setField lets the field i of r hold x, without a name more or less.
func (k *kept) setField(r, i, x int) {
	at, _ := k.field(r, i)
	k.g.Put(at, uint32(x))
	k.words[at] = uint32(x)
}

// born has an object born. Its words are some that would name objects, if they were pointer fields.
func (k *kept) born(t *testing.T, nptr, ndata int) int {
	t.Helper()
	r, err := link.Born(k.g, nptr, ndata)
	if err != api.OK {
		t.Fatalf("%v: Born(%d, %d): %d", k.c, nptr, ndata, err)
	}
	k.read()
	for i := range ndata {
		k.setField(r, nptr+i, 1+i%k.c.N)
	}
	return r
}

// some has objects born of one block, of a head and one leaf, of a head and many, with and without fields of either kind, as far as there is room, and answers their references.
func (k *kept) some(t *testing.T) []int {
	t.Helper()
	var l []int
	for _, n := range [][2]int{{0, 0}, {3, 2}, {k.c.W - 8, 0}, {0, 3}, {k.c.W - 8, 1}, {0, 2 * k.c.W}, {1, 1}, {2 * k.c.W, 5}, {3 * (k.c.W - 1), 0}} {
		if blocks, err := shape.Blocks(k.c.W, n[0], n[1]); err == api.OK && blocks <= pool.Len(k.g) {
			l = append(l, k.born(t, n[0], n[1]))
		}
	}
	return l
}

// fill lets each field of these objects hold one of them, or nothing.
func (k *kept) fill(l []int, next func(int) int) {
	for _, r := range l {
		for i := range k.word(r-1, 1) {
			x := 0
			if n := next(len(l) + 1); n > 0 {
				x = l[n-1]
			}
			k.setField(r, i, x)
		}
	}
}

// begin lets an epoch begin, by whose parity nobody was counted.
func (k *kept) begin() {
	tint.Turn(k.g)
	tint.Begin(k.g, api.Counting)
	k.read()
}

// at is where in the store a word of a block has to be.
func (k *kept) at(b, w int) int {
	return 24 + k.c.R + b*k.c.W + w
}

// word is what a word of a block has to be.
func (k *kept) word(b, w int) int {
	return int(k.words[k.at(b, w)])
}

// is tells whether r has to be an object's reference.
func (k *kept) is(r int) bool {
	return r >= 1 && r <= k.c.N && (k.word(r-1, 0)&3 == api.Small || k.word(r-1, 0)&3 == api.Spine)
}

// mark tells whether a mark of an object has to be the parity.
func (k *kept) mark(r, bit int) bool {
	return uint32(k.word(r-1, 0)>>bit&1) == k.words[parity]
}

// shadow is what an object's shadow has to be.
func (k *kept) shadow(r int) int {
	if !k.mark(r, shade) {
		return 0
	}
	return k.word(r-1, 4)
}

// field is where in the store a field of an object has to be, and whether its leaf wasn't shed.
func (k *kept) field(r, i int) (int, bool) {
	if k.word(r-1, 1)+k.word(r-1, 2) <= k.c.W-8 {
		return k.at(r-1, 8+i), true
	}
	leaf := k.word(r-1, 8+i/(k.c.W-1))
	return k.at(leaf-1, 1+i%(k.c.W-1)), leaf != 0
}

// holds is what the pointer field i of an object has to hold, 0 where its leaf was shed.
func (k *kept) holds(r, i int) int {
	at, ok := k.field(r, i)
	if !ok {
		return 0
	}
	return int(k.words[at])
}

// count says that there has to be a step of the count, and tells whether there is one.
func (k *kept) count() bool {
	c, f := int(k.words[cursor]), int(k.words[cursorField])
	if k.words[phase] != api.Counting || c >= k.c.N {
		return false
	}
	r := c + 1
	if k.is(r) && !k.mark(r, counted) {
		if f < k.word(c, 1) {
			k.deepen(k.holds(r, f))
			k.words[cursorField]++
			return true
		}
		k.turn(r, counted)
	}
	k.words[cursor], k.words[cursorField] = uint32(c+1), 0
	return true
}

// deepen says that the shadow of x has to be one more, if there is such an object.
func (k *kept) deepen(x int) {
	if !k.is(x) {
		return
	}
	k.words[k.at(x-1, 4)] = uint32(k.shadow(x) + 1)
	k.turn(x, shade)
}

// turn says that a mark of an object has to be the parity.
func (k *kept) turn(r, bit int) {
	tag := &k.words[k.at(r-1, 0)]
	*tag = *tag&^(1<<bit) | k.words[parity]<<bit
}

// step does a step, and tells where it isn't as it has to be, or any word isn't behind it.
func (k *kept) step(t *testing.T) bool {
	t.Helper()
	want := k.count()
	var ok bool
	k.metered(t, func() { ok = tally.Step(k.g) })
	if ok != want {
		t.Fatalf("%v: Step: %v", k.c, ok)
	}
	if got := k.g.Words(); !slices.Equal(got, k.words) {
		for i := range got {
			if got[i] != k.words[i] {
				t.Fatalf("%v: the word %d of the store is %d, not %d", k.c, i, got[i], k.words[i])
			}
		}
	}
	return ok
}

// whole does steps till there is none, and answers how many there were, of which there may not be more than N times W.
func (k *kept) whole(t *testing.T) int {
	t.Helper()
	n := 0
	for k.step(t) {
		n++
	}
	if n > k.c.N*k.c.W {
		t.Errorf("%v: %d steps", k.c, n)
	}
	return n
}

// metered does a step, and tells where it makes more accesses than it may.
func (k *kept) metered(t *testing.T, call func()) {
	t.Helper()
	ahead := k.g.Meter()
	call()
	if n := k.g.Meter() - ahead; n > 96 {
		t.Errorf("%v: %d accesses", k.c, n)
	}
}

// chance answers a row of numbers that is the same at each run.
func chance(seed uint32) func(int) int {
	return func(bound int) int {
		seed = seed*1664525 + 1013904223
		return int(seed>>8) % bound
	}
}
