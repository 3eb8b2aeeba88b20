package round_test

import (
	"math"
	"slices"
	"testing"

	"quitrent/api"
	"quitrent/flood"
	"quitrent/ground"
	"quitrent/link"
	"quitrent/pool"
	"quitrent/reap"
	"quitrent/round"
	"quitrent/shape"
	"quitrent/tally"
)

// small is a configuration whose words are soon compared; some has room for more objects. No two of a configuration's numbers are one.
var (
	small = api.Conf{N: 9, W: 16, R: 3, K: 2}
	some  = api.Conf{N: 40, W: 18, R: 5, K: 2}
)

// confs are configurations with one block, with the least width, with the greatest and with some between.
var confs = []api.Conf{{N: 1, W: 16, R: 1, K: 3}, small, some, {N: 30, W: 256, R: 7, K: 65536}}

// most is the greatest number that a word can hold.
const most = math.MaxUint32

// The registers of an epoch.
const (
	parity = 10 + iota
	phase
	cursor
	cursorField
	scanned
	scannedField
	suspicion
	units
	epochs
)

// phases are all phases there are, in the order in which an epoch has them.
var phases = []int{api.Idle, api.Counting, api.Flooding, api.Reaping}

// kept is a ground with an opened pool, and beside it all words that have to stand in it.
type kept struct {
	g     *ground.Ground
	c     api.Conf
	words []uint32
	// twin is where the steps of the layers below are done to tell what has to stand behind them.
	twin *ground.Ground
}

// open answers a ground with an opened pool. Its blocks' words are some that are not 0, but for tags and the pool's links; so are its root slots, and the registers from 17 on.
func open(t *testing.T, c api.Conf) *kept {
	t.Helper()
	g, err := ground.New(c)
	if err != api.OK || !pool.Open(g) {
		t.Fatalf("%v: %d", c, err)
	}
	for b := range c.N {
		for w := range c.W {
			if w != 0 && w != 5 {
				g.SetWord(b, w, uint32(b*c.W+w)*2654435761|1)
			}
		}
	}
	for i := range c.R {
		g.SetRoot(i, 70+i)
	}
	for r := units; r < 24; r++ {
		g.SetReg(r, 500+r)
	}
	twin, _ := ground.New(c)
	return &kept{g, c, g.Words(), twin}
}

// read says that the words that stand there now are those that have to.
func (k *kept) read() {
	k.words = k.g.Words()
}

// load makes all words of the ground these.
func (k *kept) load(l []uint32) {
	k.g.Load(l)
	k.read()
}

// setReg makes v a register.
func (k *kept) setReg(r, v int) {
	k.g.SetReg(r, v)
	k.words[r] = uint32(v)
}

// born has an object born, with words that would name objects, if they were pointer fields.
func (k *kept) born(t *testing.T, nptr, ndata int) int {
	t.Helper()
	r, err := link.Born(k.g, nptr, ndata)
	if err != api.OK {
		t.Fatalf("%v: Born(%d, %d): %d", k.c, nptr, ndata, err)
	}
	setData(k.g, r, ndata, func(i int) uint32 { return uint32(1 + i%k.c.N) })
	k.read()
	return r
}

// name lets the field i of r hold x.
func (k *kept) name(t *testing.T, r, i, x int) {
	t.Helper()
	if err := link.Put(k.g, r, i, x); err != api.OK {
		t.Fatalf("%v: Put(%d, %d, %d): %d", k.c, r, i, x, err)
	}
	k.read()
}

// let takes a hold from an object.
func (k *kept) let(t *testing.T, r int) {
	t.Helper()
	if !link.Let(k.g, r) {
		t.Fatalf("%v: Let(%d)", k.c, r)
	}
	k.read()
}

// some has objects born of one block, of a head and one leaf, of a head and many, with and without fields of either kind, as far as there is room; they name each other in some way, and every second one is let.
func (k *kept) some(t *testing.T, by func(int) int) {
	t.Helper()
	var l []int
	var fields []int
	for _, n := range [][2]int{{1, 1}, {3, 2}, {k.c.W - 8, 0}, {0, 3}, {k.c.W - 8, 1}, {0, 2 * k.c.W}, {0, 0}, {2 * k.c.W, 5}, {3 * (k.c.W - 1), 0}} {
		if blocks, err := shape.Blocks(k.c.W, n[0], n[1]); err == api.OK && blocks <= pool.Len(k.g) {
			l, fields = append(l, k.born(t, n[0], n[1])), append(fields, n[0])
		}
	}
	for i, r := range l {
		for j := range fields[i] {
			k.name(t, r, j, l[by(len(l))])
		}
	}
	for i, r := range l {
		if i%2 == 0 {
			k.let(t, r)
		}
	}
}

// goTo does units till the phase is that one.
func (k *kept) goTo(t *testing.T, p int) {
	t.Helper()
	for k.words[phase] != uint32(p) {
		k.must(t)
	}
}

// unit says that there has to be a unit, and tells whether there is one.
func (k *kept) unit() bool {
	switch k.words[phase] {
	case api.Idle:
		if k.words[suspicion] == 0 {
			return false
		}
		k.words[parity] ^= 1
		k.words[suspicion], k.words[units] = 0, 0
		k.enter(api.Counting)
	case api.Counting:
		if !k.below(tally.Step) {
			k.enter(api.Flooding)
		}
	case api.Flooding:
		if !k.below(flood.Step) {
			k.enter(api.Reaping)
		}
	case api.Reaping:
		if !k.below(reap.Step) {
			k.enter(api.Idle)
			k.words[epochs]++
		}
	}
	k.words[units]++
	return true
}

// enter says that a phase has to begin.
func (k *kept) enter(p uint32) {
	k.words[phase] = p
	clear(k.words[cursor : scannedField+1])
}

// below says that a step of a layer below has to be done, and tells whether there is one.
func (k *kept) below(step func(*ground.Ground) bool) bool {
	k.twin.Load(k.words)
	ok := step(k.twin)
	k.words = k.twin.Words()
	return ok
}

// step does a unit, and tells where it isn't as it has to be, or any word isn't behind it.
func (k *kept) step(t *testing.T) bool {
	t.Helper()
	want := k.unit()
	var ok bool
	k.metered(t, func() { ok = round.Step(k.g) })
	if ok != want {
		t.Fatalf("%v: Step: %v", k.c, ok)
	}
	k.check(t)
	return ok
}

// must does a unit that there has to be.
func (k *kept) must(t *testing.T) {
	t.Helper()
	if !k.step(t) {
		t.Fatalf("%v: no unit", k.c)
	}
}

// whole does units till there is none, and answers how many there were.
func (k *kept) whole(t *testing.T) int {
	t.Helper()
	n := 0
	for k.step(t) {
		n++
	}
	return n
}

// check tells where the words are others than they have to be, or what is told of them is.
func (k *kept) check(t *testing.T) {
	t.Helper()
	if got := k.g.Words(); !slices.Equal(got, k.words) {
		for i := range got {
			if got[i] != k.words[i] {
				t.Fatalf("%v: the word %d of the store is %d, not %d", k.c, i, got[i], k.words[i])
			}
		}
	}
	if n := round.Units(k.g); n != int(k.words[units]) {
		t.Fatalf("%v: Units: %d", k.c, n)
	}
	if n := round.Epochs(k.g); n != int(k.words[epochs]) {
		t.Fatalf("%v: Epochs: %d", k.c, n)
	}
	if quiet := round.Quiet(k.g); quiet != (k.words[phase] == api.Idle && k.words[suspicion] == 0) {
		t.Fatalf("%v: Quiet: %v", k.c, quiet)
	}
}

// metered does a unit, and tells where it makes more accesses than it may.
func (k *kept) metered(t *testing.T, call func()) {
	t.Helper()
	ahead := k.g.Meter()
	call()
	if n := k.g.Meter() - ahead; n > 96 {
		t.Errorf("%v: %d accesses", k.c, n)
	}
}

// chance answers a row of numbers that is the same at each run.
func chance(seed uint32) func(int) int {
	return func(bound int) int {
		seed = seed*1664525 + 1013904223
		return int(seed>>8) % bound
	}
}
