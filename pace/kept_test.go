package pace_test

import (
	"math"
	"slices"
	"testing"

	"quitrent/api"
	"quitrent/grave"
	"quitrent/ground"
	"quitrent/link"
	"quitrent/obj"
	"quitrent/pace"
	"quitrent/pool"
	"quitrent/round"
	"quitrent/shape"
)

// small is a configuration whose words are soon compared; some has room for more objects. No two of a configuration's numbers are one.
var (
	small = api.Conf{N: 9, W: 16, R: 3, K: 2}
	some  = api.Conf{N: 40, W: 18, R: 5, K: 7}
)

// confs are configurations with one block, with the least width, with the greatest and with some between.
var confs = []api.Conf{{N: 1, W: 16, R: 1, K: 3}, small, some, {N: 30, W: 256, R: 7, K: 65536}}

// most is the greatest number that a word can hold.
const most = math.MaxUint32

// The registers that the calls of lower layers set, and those that are told here.
const (
	phase     = 11
	suspicion = 16
	paid      = 19
	drained   = 20
	freed     = 21
)

// call is a call that does a piece of work of a lower layer several times, the register that has how many times, and how many accesses each time takes at most.
type call struct {
	name string
	do   func(*ground.Ground, int) int
	work func(*ground.Ground) bool
	reg  int
	each func(api.Conf) int
}

// calls answers all such calls.
func calls() []call {
	one := func(api.Conf) int { return 96 }
	block := func(c api.Conf) int { return 96 * c.W }
	return []call{
		{"Pay", pace.Pay, round.Step, paid, one},
		{"Drain", pace.Drain, grave.Step, drained, one},
		{"Free", pace.Free, grave.Release, freed, block},
	}
}

// kept is a ground with an opened pool, and beside it all words that have to stand in it.
type kept struct {
	g     *ground.Ground
	c     api.Conf
	words []uint32
	// twin is where the work of the layers below is done to tell what has to stand behind it.
	twin *ground.Ground
}

// open answers a ground with an opened pool. Its blocks' words are some that are not 0, but for tags and the pool's links; so are its root slots, and the registers from 17 on.
func open(t *testing.T, c api.Conf) *kept {
	t.Helper()
	g, err := ground.New(c)
	if err != api.OK || !pool.Open(g) {
		t.Fatalf("%v: %d", c, err)
	}
	for b := range c.N {
		for w := range c.W {
			if w != 0 && w != 5 {
				g.SetWord(b, w, uint32(b*c.W+w)*2654435761|1)
			}
		}
	}
	for i := range c.R {
		g.SetRoot(i, 70+i)
	}
	for r := suspicion + 1; r < 24; r++ {
		g.SetReg(r, 500+r)
	}
	twin, _ := ground.New(c)
	return &kept{g, c, g.Words(), twin}
}

// load makes all words of the ground these.
func (k *kept) load(l []uint32) {
	k.g.Load(l)
	k.words = slices.Clone(l)
}

// setReg makes v a register.
func (k *kept) setReg(r, v int) {
	k.g.SetReg(r, v)
	k.words[r] = uint32(v)
}

// born has an object born, with some words.
func (k *kept) born(t *testing.T, nptr, ndata int, by func(int) int) int {
	t.Helper()
	r, err := link.Born(k.g, nptr, ndata)
	if err != api.OK {
		t.Fatalf("%v: Born(%d, %d): %d", k.c, nptr, ndata, err)
	}
	for i := range ndata {
		obj.SetData(k.g, r, i, uint32(by(1<<20)))
	}
	k.words = k.g.Words()
	return r
}

// dead has an object born and let, so that it is buried.
func (k *kept) dead(t *testing.T, nptr, ndata int) int {
	t.Helper()
	r := k.born(t, nptr, ndata, chance(1))
	if !link.Let(k.g, r) {
		t.Fatalf("%v: Let(%d)", k.c, r)
	}
	k.words = k.g.Words()
	return r
}

// all has objects born of one block, of a head and one leaf, of a head and many, with and without fields of either kind, as far as there is room, lets them name those of the first half in some way, and answers them. An epoch is due behind it.
func (k *kept) all(t *testing.T, by func(int) int) []int {
	t.Helper()
	var l []int
	var fields []int
	for _, n := range [][2]int{{1, 1}, {3, 2}, {0, 3}, {k.c.W - 8, 0}, {k.c.W - 8, 1}, {0, 2 * k.c.W}, {0, 0}, {2 * k.c.W, 5}, {3 * (k.c.W - 1), 0}} {
		if blocks, err := shape.Blocks(k.c.W, n[0], n[1]); err == api.OK && blocks <= pool.Len(k.g) {
			l, fields = append(l, k.born(t, n[0], n[1], by)), append(fields, n[0])
		}
	}
	for i, r := range l {
		for j := range fields[i] {
			link.Put(k.g, r, j, l[(i*j+j)%((len(l)+1)/2)])
		}
	}
	k.setReg(suspicion, 1)
	return l
}

// some has such objects born, and behind so many units lets every second one, so that some lie in the grave, and some are lost.
func (k *kept) some(t *testing.T, by func(int) int, units int) {
	t.Helper()
	l := k.all(t, by)
	round.Run(k.g, units)
	for i, r := range l {
		if i%2 == 0 {
			link.Let(k.g, r)
		}
	}
	k.words = k.g.Words()
}

// moments answers numbers of units behind which an epoch of such objects, as long as none is let, is in each of its phases, or has ended: so many in like parts, and two in the last phase, which may be short.
func moments(t *testing.T, c api.Conf, parts int) []int {
	t.Helper()
	k := open(t, c)
	k.all(t, chance(1))
	epoch := round.Run(k.g, math.MaxInt)
	l := []int{epoch - c.N/2 - 1, epoch - 1}
	for i := range parts + 1 {
		l = append(l, epoch*i/parts)
	}
	return l
}

// below says that a piece of work has to be done n times, or as often as there is any, and that a register is as many more, and answers how many times.
func (k *kept) below(n, reg int, work func(*ground.Ground) bool) int {
	k.twin.Load(k.words)
	done := 0
	for done < n && work(k.twin) {
		done++
	}
	k.words = k.twin.Words()
	k.words[reg] += uint32(done)
	return done
}

// call does a call, tells where it answers something else than it has to, makes more accesses than it may, or any word isn't as it has to be behind it, and answers how many times something was done.
func (k *kept) call(t *testing.T, x call, n int) int {
	t.Helper()
	want := k.below(n, x.reg, x.work)
	ahead := k.g.Meter()
	got := x.do(k.g, n)
	if got != want {
		t.Fatalf("%v: %s(%d): %d, not %d", k.c, x.name, n, got, want)
	}
	if a := k.g.Meter() - ahead; a > uint64(16+got*x.each(k.c)) {
		t.Errorf("%v: %s(%d): %d accesses, and %d was done", k.c, x.name, n, a, got)
	}
	k.check(t)
	return got
}

// tick does a tick, and tells where it makes more accesses than its two calls may, or any word isn't as it has to be behind it.
func (k *kept) tick(t *testing.T) {
	t.Helper()
	done := k.below(k.c.K, drained, grave.Step) + k.below(k.c.K, paid, round.Step)
	ahead := k.g.Meter()
	pace.Tick(k.g)
	if a := k.g.Meter() - ahead; a > uint64(2*16+96*done) {
		t.Errorf("%v: Tick: %d accesses, and %d was done", k.c, a, done)
	}
	k.check(t)
}

// check tells where the words are others than they have to be, what is told of them is, or telling it makes an access.
func (k *kept) check(t *testing.T) {
	t.Helper()
	ahead := k.g.Meter()
	p, d, f := pace.Totals(k.g)
	if p != int(k.words[paid]) || d != int(k.words[drained]) || f != int(k.words[freed]) {
		t.Fatalf("%v: Totals: %d, %d, %d, not %v", k.c, p, d, f, k.words[paid:freed+1])
	}
	if n := k.g.Meter() - ahead; n != 0 {
		t.Errorf("%v: Totals: %d accesses", k.c, n)
	}
	if got := k.g.Words(); !slices.Equal(got, k.words) {
		for i := range got {
			if got[i] != k.words[i] {
				t.Fatalf("%v: the word %d of the store is %d, not %d", k.c, i, got[i], k.words[i])
			}
		}
	}
}

// chance answers a row of numbers that is the same at each run.
func chance(seed uint32) func(int) int {
	return func(bound int) int {
		seed = seed*1664525 + 1013904223
		return int(seed>>8) % bound
	}
}
