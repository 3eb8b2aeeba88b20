package audit_test

import (
	"slices"
	"testing"

	"quitrent/api"
	"quitrent/audit"
	"quitrent/chain"
	"quitrent/ground"
	"quitrent/heap"
	"quitrent/link"
	"quitrent/op"
	"quitrent/ring"
	"quitrent/tint"
)

// unlike are words by which one is replaced, each of which is another one.
func unlike(g *ground.Ground, was int) []int {
	n := g.Conf().N
	l := []int{was + 1, was ^ 1, was ^ ringed, 0, 1, 2, 3, n, n + 1, 1 << 31, most}
	if was > 0 {
		l = append(l, was-1)
	}
	return slices.DeleteFunc(l, func(v int) bool { return v == was || v > most })
}

// breaks tells where a sound ground is sound still, though one word is another one; and that it is as it was with the word as it was.
func breaks(t *testing.T, g *ground.Ground, what string, at int, get func() int, set func(v int)) {
	t.Helper()
	was := get()
	for _, v := range unlike(g, was) {
		set(v)
		if audit.Sound(g) {
			t.Errorf("%v: %s %d: %d in the place of %d is not found", g.Conf(), what, at, v, was)
		}
	}
	set(was)
	if !audit.Sound(g) {
		t.Errorf("%v: %s %d: %v", g.Conf(), what, at, audit.Check(g))
	}
}

// breaksAnywhere tells where a sound ground is sound still, though a slot, a register, a count or the word 0 of a clean block is another one.
func breaksAnywhere(t *testing.T, g *ground.Ground) {
	t.Helper()
	for s := range g.Conf().R {
		breaks(t, g, "slot", s, func() int { return g.SeeRoot(s) }, func(v int) { g.SetRoot(s, v) })
	}
	for r := range 10 {
		breaks(t, g, "register", r, func() int { return g.SeeReg(r) }, func(v int) { g.SetReg(r, v) })
	}
	words := func(what string, b, w int) {
		t.Helper()
		breaks(t, g, what, b, func() int { return int(g.SeeWord(b, w)) }, func(v int) { g.SetWord(b, w, uint32(v)) })
	}
	for _, b := range rawOf(g).heads() {
		words("the count of", b, 3)
	}
	for _, b := range chain.List(g, 0) {
		words("the word 0 of", b, 0)
	}
}

// P25.3: the sample isn't sound any more, whichever of those words is another one.
func TestBreaks(t *testing.T) {
	breaksAnywhere(t, sample(t))
	for _, c := range confs {
		g, _ := heap.New(c)
		breaksAnywhere(t, g.Ground())
	}
}

// P25.3: a heap is sound behind whatever operations, in each phase, with dead ones and a ring; and isn't any more, whichever of those words is another one.
func TestWhatFollows(t *testing.T) {
	for i, c := range append([]api.Conf{{N: 20, W: 16, R: 3, K: 1}, {N: 60, W: 17, R: 8, K: 300}}, confs...) {
		next := chance(uint32(i + 1))
		phases, buried, rung, spines := [4]int{}, 0, 0, 0
		for range 5 {
			h, _ := heap.New(c)
			g := h.Ground()
			for turn := range 400 {
				o := anyOp(next, c)
				op.Do(h, o)
				if l := check(t, g); len(l) != 0 {
					t.Fatalf("%v: %v: %v", c, o, l)
				}
				phases[tint.Phase(g)]++
				buried += min(len(chain.List(g, 1)), 1)
				rung += min(len(ring.List(g)), 1)
				for _, b := range rawOf(g).heads(deadBit) {
					spines += times(rawOf(g).leafWords(b), 0)
				}
				if turn%80 == 79 {
					breaksAnywhere(t, g)
				}
			}
		}
		if c.N > 2 && c.K < 10 && (slices.Min(phases[:]) < 20 || buried < 20 || rung < 20 || spines < 1) {
			t.Errorf("%v: %v, %d, %d, %d: that tells too little", c, phases, buried, rung, spines)
		}
	}
}

// P25.3: behind the calls of the layers below, too, from unit to unit and from step to step, as long as all holds are in slots.
func TestLowerLayers(t *testing.T) {
	g := bare(t, api.Conf{N: 30, W: 16, R: 3, K: 1})
	for s := range 3 {
		r, _ := link.Born(g, 20, s)
		g.SetRoot(s, r)
		finds(t, g)
	}
	for _, f := range [][3]int{{1, 0, 1}, {1, 19, 4}, {4, 17, 7}, {7, 3, 4}} {
		if err := link.Put(g, f[0], f[1], f[2]); err != api.OK {
			t.Fatal(f, err)
		}
		finds(t, g)
	}
	// A hold that is in no slot is one too many.
	g.SetRoot(0, 0)
	finds(t, g, at(countOf, 0))
	link.Let(g, 1)
	finds(t, g)
	link.Hold(g, 4)
	finds(t, g, at(countOf, 3))
	link.Let(g, 4)
	finds(t, g)
}

// P25.1: whatever the words are: heaps of which some words are made any others, near ones and far ones.
func TestTampered(t *testing.T) {
	next := chance(3)
	found := [12]int{}
	for turn := range 4000 {
		c := confs[turn%4]
		g := anyHeap(t, next, c, next(60)).Ground()
		for range next(3) + 1 {
			tamper(g, next)
			for _, f := range check(t, g) {
				found[f.Kind]++
			}
		}
	}
	if slices.Min(found[1:]) < 50 {
		t.Errorf("%v: that tells too little", found)
	}
}

// tamper makes one word another one: a register, a slot, or a word of a block, mostly of its head.
func tamper(g *ground.Ground, next func(int) int) {
	c := g.Conf()
	v := next(c.N + 2)
	switch next(6) {
	case 0:
		v = 1<<next(4) + next(256)*next(c.N+1)
	case 1:
		v = next(2) * most
	}
	switch next(8) {
	case 0:
		g.SetReg(next(10), v)
	case 1:
		g.SetRoot(next(c.R), v)
	case 2:
		g.SetWord(next(c.N), next(c.W), uint32(v))
	case 3:
		b, bit := next(c.N), next(32)
		g.SetWord(b, 0, g.SeeWord(b, 0)^1<<bit)
	default:
		g.SetWord(next(c.N), next(12), uint32(v))
	}
}

// P25.1: whatever the words are: blocks of any kinds and sizes, with any leaf words, fields and links.
func TestAnyWords(t *testing.T) {
	next := chance(9)
	found, sound := [12]int{}, [12]int{}
	for range 6000 {
		c := api.Conf{N: 1 + next(7), W: 16 + next(2), R: 1 + next(3), K: 1}
		g, _ := ground.New(c)
		for r := range 10 {
			g.SetReg(r, next(min(c.N+2, 2+next(9))))
		}
		for s := range c.R {
			g.SetRoot(s, next(c.N+2))
		}
		for b := range c.N {
			anyBlock(g, next, b)
		}
		mend(g, next)
		seen := [12]bool{}
		for _, f := range check(t, g) {
			found[f.Kind]++
			seen[f.Kind] = true
		}
		for kind, is := range seen {
			if !is {
				sound[kind]++
			}
		}
	}
	if slices.Min(found[1:]) < 200 || slices.Min(sound[1:]) < 500 {
		t.Errorf("%v, %v: that tells too little", found, sound)
	}
}

// mend makes some of the words right: counts, rows in any order, and how many are pending.
func mend(g *ground.Ground, next func(int) int) {
	mixed := func(l []int) []int {
		for i := range l {
			j := next(i + 1)
			l[i], l[j] = l[j], l[i]
		}
		return l
	}
	x := rawOf(g)
	if next(3) > 0 {
		layRing(g, mixed(x.heads(ringBit))...)
	}
	if next(3) > 0 {
		layGrave(g, mixed(x.heads(deadBit))...)
	}
	var clean []int
	held := x.slots()
	for b := range x.c.N {
		held = append(held, x.ptrs(b)...)
		if x.word(b, 0) == 0 {
			clean = append(clean, b)
		}
	}
	if next(3) > 0 {
		layClean(g, mixed(clean)...)
	}
	for _, b := range x.heads() {
		if next(3) > 0 {
			g.SetWord(b, 3, uint32(times(held, b+1)))
		}
	}
	if next(3) > 0 {
		n := len(x.heads(deadBit))
		for _, b := range x.heads(deadBit) {
			n += len(x.leafWords(b)) - times(x.leafWords(b), 0)
		}
		g.SetReg(6, n)
	}
}

// anyBlock makes a block one of any kind, mostly with a size that goes with it.
func anyBlock(g *ground.Ground, next func(int) int, b int) {
	c := g.Conf()
	for w := range c.W {
		if next(3) == 0 {
			g.SetWord(b, w, uint32(next(c.N+2)))
		}
	}
	tags := []int{0, 0, small, small, small + dead, small + ringed, spine, spine + dead, spine + ringed + color, leaf + owner*next(c.N+1), leaf + owner*next(c.N), small + spare*next(2)}
	w := tags[next(len(tags))]
	g.SetWord(b, 0, uint32(w))
	fields := next(c.W - 7)
	if w%4 == spine {
		fields = c.W - 7 + next(2*c.W)
	}
	if next(20) == 0 {
		fields = next(200)
	}
	ptrs := next(fields + 1)
	g.SetWord(b, 1, uint32(ptrs))
	g.SetWord(b, 2, uint32(fields-ptrs))
	if w&dead > 0 && next(3) > 0 || w == 0 {
		g.SetWord(b, 3, 0)
	}
}
