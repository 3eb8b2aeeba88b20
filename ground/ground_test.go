package ground_test

import (
	"math"
	"slices"
	"testing"

	"quitrent/api"
	"quitrent/ground"
)

// small is a configuration whose ends are all at different places of the store.
var small = api.Conf{N: 3, W: 17, R: 5, K: 2}

// confs are configurations of many sizes, among them the greatest of each.
var confs = []api.Conf{
	{N: 1, W: 16, R: 1, K: 1}, {N: 2, W: 16, R: 3, K: 1}, small, {N: 7, W: 256, R: 1, K: 65536},
	{N: 40, W: 33, R: 4096, K: 40}, {N: 262144, W: 16, R: 4096, K: 1}, {N: 16384, W: 256, R: 2, K: 3},
}

// words are ends of what a word may be, and some between.
var words = []int{0, 1, 7, math.MaxInt32, math.MaxInt32 + 1, 0x12345678, math.MaxUint32 - 1, math.MaxUint32, 0}

// noWords are numbers that no word can be; some are such as can, if they go round.
var noWords = []int{-1, -2, math.MinInt32, -math.MaxUint32, math.MinInt, math.MinInt + 5, math.MaxUint32 + 1, math.MaxUint32 + 2, 1 << 33, 1 << 62, math.MaxInt}

// outside answers numbers that are not from 0 on and below n; some are so, if they go round.
func outside(n int) []int {
	return []int{
		-1, -2, -n, -n - 1, n, n + 1, 2 * n, 1 << 32, 1<<32 + 1, 1 << 60, 1 << 62, 1<<63 - 16,
		math.MaxInt32, math.MinInt32, -1 << 32, math.MaxInt, math.MinInt, math.MinInt + 1,
	}
}

// groundOf answers a ground of c.
func groundOf(t *testing.T, c api.Conf) *ground.Ground {
	t.Helper()
	g, err := ground.New(c)
	if g == nil || err != api.OK {
		t.Fatalf("New(%v): %v, %d", c, g, err)
	}
	return g
}

// size is how many words a ground of c has, told again so that another one is found.
func size(c api.Conf) int {
	return 24 + c.R + c.N*c.W
}

// filled answers a ground of c of which each word is its number in the store and one, and these words.
func filled(t *testing.T, c api.Conf) (*ground.Ground, []uint32) {
	t.Helper()
	g, l := groundOf(t, c), make([]uint32, size(c))
	for i := range l {
		l[i] = uint32(i + 1)
	}
	if !g.Load(l) {
		t.Fatalf("Load of %d words into a ground of %v", len(l), c)
	}
	return g, l
}

// check tells where the words of a ground or its meter are not what they should be.
func check(t *testing.T, name string, g *ground.Ground, meter uint64, want []uint32) {
	t.Helper()
	if got := g.Words(); !slices.Equal(got, want) {
		t.Errorf("%s: words %v, not %v", name, got, want)
	}
	if g.Meter() != meter {
		t.Errorf("%s: Meter %d, not %d", name, g.Meter(), meter)
	}
}

func TestNew(t *testing.T) {
	for _, c := range confs {
		g := groundOf(t, c)
		l := g.Words()
		if len(l) != size(c) || g.Meter() != 0 || g.Conf() != c {
			t.Errorf("New(%v): %d words, Meter %d, Conf %v", c, len(l), g.Meter(), g.Conf())
		}
		if slices.ContainsFunc(l, func(w uint32) bool { return w != 0 }) {
			t.Errorf("New(%v): not all words are 0", c)
		}
	}
}

func TestNewWrong(t *testing.T) {
	for _, c := range []api.Conf{
		{}, {N: 0, W: 16, R: 1, K: 1}, {N: 1, W: 15, R: 1, K: 1}, {N: 1, W: 16, R: 0, K: 1}, {N: 1, W: 16, R: 1, K: 0},
		{N: -1, W: 16, R: 1, K: 1}, {N: 1, W: 257, R: 1, K: 1}, {N: 1, W: 16, R: 4097, K: 1}, {N: 1, W: 16, R: 1, K: 65537},
		{N: 1048577, W: 16, R: 1, K: 1}, {N: 262145, W: 16, R: 1, K: 1}, {N: 16385, W: 256, R: 1, K: 1},
		{N: math.MaxInt, W: math.MaxInt, R: math.MaxInt, K: math.MaxInt}, {N: math.MinInt, W: math.MinInt, R: math.MinInt, K: math.MinInt},
	} {
		if g, err := ground.New(c); g != nil || err != api.ErrConf {
			t.Errorf("New(%v): %v, %d, not ErrConf", c, g, err)
		}
	}
}

func TestExample(t *testing.T) {
	g := groundOf(t, api.Conf{N: 2, W: 16, R: 3, K: 1})
	if !g.SetWord(1, 5, 9) || g.Words()[48] != 9 {
		t.Error("the word 5 of the block 1 is not the word 48 of the store")
	}
}

// TestWhereAllLies asks each register, root slot and word: what is there, and that it's one access to see it but by See.
func TestWhereAllLies(t *testing.T) {
	for _, c := range confs[:5] {
		g, l := filled(t, c)
		at := 0
		ask := func(get, see uint32) {
			if want := uint32(at + 1); get != want || see != want || g.Meter() != uint64(at+1) {
				t.Fatalf("%v: the word %d of the store: %d, seen %d; Meter %d", c, at, get, see, g.Meter())
			}
			at++
		}
		for r := range api.Regs {
			ask(uint32(g.Reg(r)), uint32(g.SeeReg(r)))
		}
		for i := range c.R {
			ask(uint32(g.Root(i)), uint32(g.SeeRoot(i)))
		}
		for b := range c.N {
			for w := range c.W {
				ask(g.Word(b, w), g.SeeWord(b, w))
			}
		}
		if at != len(l) {
			t.Errorf("%v: %d words, not %d", c, at, len(l))
		}
		check(t, "asked", g, uint64(len(l)), l)
	}
}

// TestEachIsOne sets each register, root slot and word: no other word of the store is another one then.
func TestEachIsOne(t *testing.T) {
	g, want := filled(t, small)
	meter := uint64(0)
	set := func(name string, at int, v uint32, ok bool) {
		meter++
		want[at] = v
		if !ok {
			t.Errorf("%s: false", name)
		}
		check(t, name, g, meter, want)
	}
	for r := range 24 {
		set("SetReg", r, uint32(100+r), g.SetReg(r, 100+r))
	}
	for i := range small.R {
		set("SetRoot", 24+i, uint32(200+i), g.SetRoot(i, 200+i))
	}
	for b := range small.N {
		for w := range small.W {
			v := uint32(1000*b + w)
			set("SetWord", 24+small.R+b*small.W+w, v, g.SetWord(b, w, v))
		}
	}
}

// places are a register, a root slot and a word of a block as calls, at both ends of each range.
func places(g *ground.Ground) []place {
	var all []place
	for _, r := range []int{0, 1, 23} {
		all = append(all, place{r, func() int { return g.Reg(r) }, func() int { return g.SeeReg(r) }, func(v int) bool { return g.SetReg(r, v) }})
	}
	for _, i := range []int{0, 1, small.R - 1} {
		all = append(all, place{24 + i, func() int { return g.Root(i) }, func() int { return g.SeeRoot(i) }, func(v int) bool { return g.SetRoot(i, v) }})
	}
	for _, p := range [][2]int{{0, 0}, {0, small.W - 1}, {1, 3}, {small.N - 1, 0}, {small.N - 1, small.W - 1}} {
		b, w := p[0], p[1]
		set := func(v int) bool { return uint64(v) <= math.MaxUint32 && g.SetWord(b, w, uint32(v)) }
		all = append(all, place{24 + small.R + b*small.W + w, func() int { return int(g.Word(b, w)) }, func() int { return int(g.SeeWord(b, w)) }, set})
	}
	return all
}

// place is a word of a ground: where in the store it is, and the calls by which it's asked, seen and set.
type place struct {
	at       int
	get, see func() int
	set      func(v int) bool
}

func TestSet(t *testing.T) {
	g, want := filled(t, small)
	meter := uint64(0)
	for _, p := range places(g) {
		for _, v := range words {
			if !p.set(v) {
				t.Errorf("the word %d: %d may not be there", p.at, v)
			}
			meter, want[p.at] = meter+1, uint32(v)
			check(t, "set", g, meter, want)
			if got, seen := p.get(), p.see(); got != v || seen != v {
				t.Errorf("the word %d: %d, seen %d, not %d", p.at, got, seen, v)
			}
			meter++
			check(t, "got", g, meter, want)
		}
	}
}

func TestSetNoWord(t *testing.T) {
	g, want := filled(t, small)
	for _, p := range places(g) {
		for _, v := range noWords {
			if p.set(v) {
				t.Errorf("the word %d: %d may be there", p.at, v)
			}
			check(t, "set to what is no word", g, 0, want)
		}
	}
}

func TestNoSuchRegister(t *testing.T) {
	for _, c := range confs[:4] {
		g, want := filled(t, c)
		for _, r := range outside(24) {
			if g.Reg(r) != 0 || g.SeeReg(r) != 0 || g.SetReg(r, 7) || g.SetReg(r, -1) || g.SetReg(r, 0) {
				t.Errorf("%v has a register %d", c, r)
			}
		}
		check(t, "no such register", g, 0, want)
	}
}

func TestNoSuchRoot(t *testing.T) {
	for _, c := range confs[:4] {
		g, want := filled(t, c)
		for _, i := range append(outside(c.R), -24, -25, c.R+c.N*c.W-1, c.R+c.N*c.W) {
			if g.Root(i) != 0 || g.SeeRoot(i) != 0 || g.SetRoot(i, 7) || g.SetRoot(i, -1) || g.SetRoot(i, 0) {
				t.Errorf("%v has a root slot %d", c, i)
			}
		}
		check(t, "no such root slot", g, 0, want)
	}
}

func TestNoSuchWord(t *testing.T) {
	for _, c := range confs[:4] {
		g, want := filled(t, c)
		ask := func(b, w int) {
			if g.Word(b, w) != 0 || g.SeeWord(b, w) != 0 || g.SetWord(b, w, 7) || g.SetWord(b, w, 0) {
				t.Errorf("%v has a word %d of a block %d", c, w, b)
			}
		}
		for _, b := range outside(c.N) {
			// Some of these would be words that there are, if a word behind a block's end were the next one's.
			for _, w := range []int{0, 1, c.W - 1, -b * c.W, c.W} {
				ask(b, w)
			}
		}
		for _, w := range outside(c.W) {
			for b := range c.N {
				ask(b, w)
			}
		}
		check(t, "no such word", g, 0, want)
	}
}

func TestWipe(t *testing.T) {
	for _, c := range confs[:4] {
		g, want := filled(t, c)
		for i, b := range []int{c.N - 1, 0, c.N / 2, c.N / 2} { // the last one also where all is 0 already
			if got := g.Wipe(b); got != c.W {
				t.Errorf("%v: Wipe(%d): %d, not %d", c, b, got, c.W)
			}
			first := 24 + c.R + b*c.W
			clear(want[first : first+c.W])
			check(t, "Wipe", g, uint64((i+1)*c.W), want)
		}
	}
}

func TestWipeNoBlock(t *testing.T) {
	for _, c := range confs[:4] {
		g, want := filled(t, c)
		for _, b := range outside(c.N) {
			if got := g.Wipe(b); got != 0 {
				t.Errorf("%v: Wipe(%d): %d, not 0", c, b, got)
			}
		}
		check(t, "Wipe of none", g, 0, want)
	}
}

func TestEndsOfTheGreatest(t *testing.T) {
	for _, c := range confs[4:] {
		g := groundOf(t, c)
		last := size(c) - 1
		if !g.SetReg(23, 3) || !g.SetRoot(c.R-1, 4) || !g.SetWord(0, 0, 5) || !g.SetWord(c.N-1, c.W-1, 6) {
			t.Errorf("%v: an end is none", c)
		}
		if g.SetWord(c.N, 0, 7) || g.SetWord(c.N-1, c.W, 7) || g.SetRoot(c.R, 7) || g.SetReg(24, 7) {
			t.Errorf("%v: there is something behind an end", c)
		}
		l := g.Words()
		if l[23] != 3 || l[23+c.R] != 4 || l[24+c.R] != 5 || l[last] != 6 || len(l) != last+1 {
			t.Errorf("%v: the ends lie otherwise", c)
		}
		if g.Meter() != 4 || g.Wipe(c.N-1) != c.W || g.Word(c.N-1, c.W-1) != 0 || g.Meter() != uint64(5+c.W) {
			t.Errorf("%v: Wipe of the last block; Meter %d", c, g.Meter())
		}
	}
}

func TestOnlyWhatIsThereIsAccess(t *testing.T) {
	g, want := filled(t, small)
	g.Reg(0)
	for _, call := range []func(){
		func() { g.Conf() }, func() { g.Meter() }, func() { g.Words() }, func() { g.Load(want) }, func() { g.Load(want[1:]) },
		func() { g.SeeReg(0); g.SeeReg(24) }, func() { g.SeeRoot(0); g.SeeRoot(-1) }, func() { g.SeeWord(0, 0); g.SeeWord(3, 0) },
	} {
		call()
		check(t, "no access", g, 1, want)
	}
	g.SetReg(0, 1) // also where v was there already
	g.SetRoot(0, 25)
	g.SetWord(0, 0, 30)
	check(t, "set as it was", g, 4, want)
}

func TestLoad(t *testing.T) {
	g, want := filled(t, small)
	g.Root(0)
	l := slices.Repeat([]uint32{8}, size(small))
	l[0] = math.MaxUint32
	if !g.Load(l) || g.Reg(0) != math.MaxUint32 || g.Word(2, 16) != 8 {
		t.Error("Load, or what is there then")
	}
	copy(want, l)
	l[3] = 4
	check(t, "Load", g, 3, want)
	g.SetReg(5, 6)
	if want[5] = 6; l[5] != 8 {
		t.Error("the list that was handed in is changed")
	}
	check(t, "SetReg behind Load", g, 4, want)
}

func TestLoadOtherMany(t *testing.T) {
	g, want := filled(t, small)
	for _, n := range []int{0, 1, 23, 24, 29, 51, len(want) - 1, len(want) + 1, 2 * len(want)} {
		if g.Load(make([]uint32, n)) {
			t.Errorf("Load of %d words, not %d: true", n, len(want))
		}
	}
	if g.Load(nil) {
		t.Error("Load of nil: true")
	}
	check(t, "Load of other many", g, 0, want)
}

func TestWordsAreNewMemory(t *testing.T) {
	g, want := filled(t, small)
	first, second := g.Words(), g.Words()
	first[0], first[len(first)-1] = 0, 0
	if !slices.Equal(second, want) {
		t.Error("two answers share memory")
	}
	check(t, "an answer is written into", g, 0, want)
	g.Wipe(1)
	if !slices.Equal(second, want) {
		t.Error("an answer is changed by a later call")
	}
}

func TestNilGround(t *testing.T) {
	var g *ground.Ground
	for _, i := range append(outside(24), 0, 1, 23) {
		if g.Reg(i) != 0 || g.SeeReg(i) != 0 || g.SetReg(i, 1) || g.Root(i) != 0 || g.SeeRoot(i) != 0 || g.SetRoot(i, 1) {
			t.Errorf("a register or root slot %d", i)
		}
		for _, w := range []int{-1, 0, 5, 16, math.MaxInt} {
			if g.Word(i, w) != 0 || g.SeeWord(i, w) != 0 || g.SetWord(i, w, 1) {
				t.Errorf("a word %d of a block %d", w, i)
			}
		}
		if g.Wipe(i) != 0 {
			t.Errorf("Wipe(%d)", i)
		}
	}
	if g.Conf() != (api.Conf{}) || g.Meter() != 0 || len(g.Words()) != 0 {
		t.Error("Conf, Meter or Words:", g.Conf(), g.Meter(), g.Words())
	}
	if g.Load(nil) || g.Load([]uint32{}) || g.Load(make([]uint32, 24)) {
		t.Error("Load: true")
	}
}

func TestGroundsAreApart(t *testing.T) {
	first, want := filled(t, small)
	second, _ := filled(t, small)
	first.SetReg(0, 9)
	first.Wipe(0)
	check(t, "the other one", second, 0, want)
}

// TestTheStoreIsTheGrounds asks by the store's own calls, which are the ground's: it is one row, and one meter.
func TestTheStoreIsTheGrounds(t *testing.T) {
	g, _ := filled(t, small)
	if g.Len() != size(small) || !g.Put(24, 9) || g.Root(0) != 9 || g.Get(25) != 26 || g.Peek(26) != 27 || g.Meter() != 3 {
		t.Error("Len, Put, Get or Peek; Meter", g.Meter())
	}
}

// TestAnyRow holds a ground against a plain list and a count, over calls of all kinds by turns.
func TestAnyRow(t *testing.T) {
	c := api.Conf{N: 5, W: 19, R: 7, K: 3}
	g, want := filled(t, c)
	meter, seed := uint64(0), uint32(1)
	next := func(bound int) int {
		seed = seed*1664525 + 1013904223
		return int(seed>>8) % bound
	}
	for step := range 30000 {
		p := anyPlace(g, c, next)
		v := next(1<<24)<<next(12) - next(2)
		switch {
		case next(50) == 0:
			b := next(c.N)
			first := 24 + c.R + b*c.W
			clear(want[first : first+c.W])
			meter += uint64(c.W)
			if g.Wipe(b) != c.W {
				t.Fatalf("step %d: Wipe", step)
			}
		case next(2) == 0:
			told := 0
			if p.at >= 0 {
				told, meter = int(want[p.at]), meter+1
			}
			if got, seen := p.get(), p.see(); got != told || seen != told {
				t.Fatalf("step %d, the word %d: %d, seen %d, not %d", step, p.at, got, seen, told)
			}
		default:
			may := p.at >= 0 && uint64(v) <= math.MaxUint32
			if may {
				want[p.at], meter = uint32(v), meter+1
			}
			if p.set(v) != may {
				t.Fatalf("step %d, the word %d: %d may be there: %v", step, p.at, v, !may)
			}
		}
		if g.Meter() != meter || !slices.Equal(g.Words(), want) {
			t.Fatalf("step %d, the word %d: Meter %d, not %d, or other words", step, p.at, g.Meter(), meter)
		}
	}
}

// anyPlace answers some register, root slot or word of c, or one that is a little beside these, which is at -1.
func anyPlace(g *ground.Ground, c api.Conf, next func(int) int) place {
	switch next(3) {
	case 0:
		r := next(24+6) - 3
		return place{within(r, 24, r), func() int { return g.Reg(r) }, func() int { return g.SeeReg(r) }, func(v int) bool { return g.SetReg(r, v) }}
	case 1:
		i := next(c.R+4) - 2
		return place{within(i, c.R, 24+i), func() int { return g.Root(i) }, func() int { return g.SeeRoot(i) }, func(v int) bool { return g.SetRoot(i, v) }}
	}
	b, w := next(c.N+2)-1, next(c.W+4)-2
	at := within(b, c.N, within(w, c.W, 24+c.R+b*c.W+w))
	set := func(v int) bool { return uint64(v) <= math.MaxUint32 && g.SetWord(b, w, uint32(v)) }
	return place{at, func() int { return int(g.Word(b, w)) }, func() int { return int(g.SeeWord(b, w)) }, set}
}

// within answers at, where n is from 0 on and below bound; -1 else.
func within(n, bound, at int) int {
	if n < 0 || n >= bound {
		return -1
	}
	return at
}
