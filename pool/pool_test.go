package pool_test

import (
	"math"
	"slices"
	"testing"

	"quitrent/api"
	"quitrent/chain"
	"quitrent/ground"
	"quitrent/pool"
)

// some is a configuration in which no two of N, W, R and the registers are one number.
var some = api.Conf{N: 9, W: 17, R: 5, K: 2}

// confs are configurations with one block, with a few and with as many as may be, of the least width and of the greatest.
var confs = []api.Conf{{N: 1, W: 16, R: 1, K: 1}, {N: 2, W: 16, R: 3, K: 1}, some, {N: 30, W: 256, R: 7, K: 65536}, {N: 262144, W: 16, R: 4096, K: 1}}

// others are tags of the kinds Small, Spine and Leaf, right ones and some that no right one is.
var others = []uint32{api.Small, api.Spine, api.Leaf, api.Leaf | 3<<8, api.Small | 31<<2, api.Spine | 1<<6, api.Small | 1<<7, api.Spine | 1<<31, api.Leaf | 31<<2, math.MaxUint32 &^ 2, math.MaxUint32 &^ 1, math.MaxUint32}

// free are words whose kind is Free; but for the first one they are no right tags.
var free = []uint32{0, 1 << 2, 1 << 3, 1 << 4, 1 << 5, 1 << 6, 1 << 7, 1 << 8, 1 << 31, math.MaxUint32 &^ 3}

// noBlocks answers numbers of no block of n; some are such as are one, if they go round or are cut to fewer bits.
func noBlocks(n int) []int {
	return []int{-1, -2, -n, -n - 1, n, n + 1, 2 * n, 1<<20 + n, 1 << 32, 1<<32 + 1, 1 << 60, 1 << 62, -1 << 32, math.MaxInt32, math.MinInt32, math.MaxInt, math.MaxInt - 1, math.MinInt, math.MinInt + 1}
}

// kept is a ground, and beside it what has to stand in it: the pool as a plain list, and all other words.
type kept struct {
	g      *ground.Ground
	c      api.Conf
	pool   []int
	others []uint32
}

// closed answers a new ground.
func closed(t *testing.T, c api.Conf) *kept {
	t.Helper()
	g, err := ground.New(c)
	if err != api.OK {
		t.Fatalf("New(%v): %d", c, err)
	}
	return &kept{g: g, c: c, others: g.Words()}
}

// open answers a ground with an opened pool. All its words that are neither the pool's nor tags are some that are not 0.
func open(t *testing.T, c api.Conf) *kept {
	t.Helper()
	k := closed(t, c)
	if !k.open(t) {
		t.Fatalf("%v: Open: false", c)
	}
	for i := range k.others {
		if i >= 3 && i < k.at(0, 0) {
			k.others[i] = uint32(i)*2654435761 | 1
		}
	}
	for b := range c.N {
		k.fill(b)
	}
	if !k.g.Load(k.words()) {
		t.Fatalf("%v: Load", c)
	}
	return k
}

// emptied answers a ground whose pool has nothing any more: all its blocks are somebody's, and filled.
func emptied(t *testing.T, c api.Conf) *kept {
	t.Helper()
	k := open(t, c)
	for b := range c.N {
		mustTake(t, k, b)
		k.own(b, others[b%len(others)])
	}
	k.check(t, "all are somebody's")
	return k
}

// at is where in the store a word of a block is.
func (k *kept) at(b, w int) int {
	return 24 + k.c.R + b*k.c.W + w
}

// fill makes all words of a block but its tag some that are not 0, in the plain list alone.
func (k *kept) fill(b int) {
	for i := k.at(b, 1); i < k.at(b, k.c.W); i++ {
		k.others[i] = uint32(i)*2246822519 | 1
	}
}

// own makes a word the tag of a block that is not in the pool, and fills the block, as an object would.
func (k *kept) own(b int, w uint32) {
	k.others[k.at(b, 0)] = w
	k.fill(b)
	for i := range k.c.W {
		k.g.SetWord(b, i, k.others[k.at(b, i)])
	}
}

// words answers all words, as the chapter lays the pool down.
func (k *kept) words() []uint32 {
	l := slices.Clone(k.others)
	clear(l[:3])
	for i, b := range k.pool {
		l[k.at(b, 0)], l[k.at(b, 5)] = 0, 0
		if i == 0 {
			l[0] = uint32(b + 1)
		} else {
			l[k.at(k.pool[i-1], 5)] = uint32(b + 1)
		}
		l[1] = uint32(b + 1)
	}
	l[2] = uint32(len(k.pool))
	return l
}

// check tells where the words are others than they should be, or what is asked of the pool is.
func (k *kept) check(t *testing.T, name string) {
	t.Helper()
	if got := k.g.Words(); !slices.Equal(got, k.words()) {
		t.Fatalf("%s: words %v, not %v", name, got, k.words())
	}
	if got := k.list(t); !slices.Equal(got, k.pool) {
		t.Fatalf("%s: List: %v, not %v", name, got, k.pool)
	}
	if got := pool.Len(k.g); got != len(k.pool) {
		t.Fatalf("%s: Len: %d, not %d", name, got, len(k.pool))
	}
	if got := k.g.Words(); !slices.Equal(got, k.words()) {
		t.Fatalf("%s: asking changed the words to %v from %v", name, got, k.words())
	}
}

// metered does a call, and tells where it makes more accesses than it may.
func (k *kept) metered(t *testing.T, name string, most int, call func()) {
	t.Helper()
	ahead := k.g.Meter()
	call()
	if n := k.g.Meter() - ahead; n > uint64(most) {
		t.Errorf("%s: %d accesses, more than %d", name, n, most)
	}
}

func (k *kept) open(t *testing.T) bool {
	t.Helper()
	ok := pool.Open(k.g)
	if ok {
		k.pool = nil
		for b := range k.c.N {
			k.pool = append(k.pool, b)
		}
	}
	return ok
}

func (k *kept) take(t *testing.T) (b int, ok bool) {
	t.Helper()
	k.metered(t, "Take", k.c.W+24, func() { b, ok = pool.Take(k.g) })
	if ok && len(k.pool) > 0 {
		// The block that should have come: whether it came is for the caller to ask.
		first := k.pool[0]
		k.pool = k.pool[1:]
		clear(k.others[k.at(first, 0):k.at(first, k.c.W)])
	}
	return b, ok
}

func (k *kept) give(t *testing.T, b int) (ok bool) {
	t.Helper()
	k.metered(t, "Give", 24, func() { ok = pool.Give(k.g, b) })
	if ok {
		k.pool = slices.Concat([]int{b}, k.pool)
	}
	return ok
}

func (k *kept) list(t *testing.T) (l []int) {
	t.Helper()
	k.metered(t, "List", 0, func() { l = pool.List(k.g) })
	return l
}

// mustTake takes blocks, and tells where another one comes, or a word of one is not 0.
func mustTake(t *testing.T, k *kept, blocks ...int) {
	t.Helper()
	for _, b := range blocks {
		if got, ok := k.take(t); got != b || !ok {
			t.Fatalf("Take: %d, %v, not %d", got, ok, b)
		}
		for w := range k.c.W {
			if v := k.g.SeeWord(b, w); v != 0 {
				t.Fatalf("the block %d is taken, and its word %d is %d", b, w, v)
			}
		}
	}
}

// mustGive gives blocks, and tells where a call is false.
func mustGive(t *testing.T, k *kept, blocks ...int) {
	t.Helper()
	for _, b := range blocks {
		if !k.give(t, b) {
			t.Fatalf("Give of %d: false", b)
		}
		k.check(t, "Give")
	}
}

// mustRefuse tells where a block is given, or anything is changed by that.
func mustRefuse(t *testing.T, k *kept, blocks ...int) {
	t.Helper()
	for _, b := range blocks {
		if k.give(t, b) {
			t.Fatalf("%v: Give of %d, with the tag %#x: true", k.c, b, k.g.SeeWord(b, 0))
		}
		k.check(t, "refused")
	}
}

// mustBeEmpty tells where there is something to be taken, or anything is changed by asking for it.
func mustBeEmpty(t *testing.T, k *kept) {
	t.Helper()
	for range 3 {
		if b, ok := k.take(t); b != 0 || ok {
			t.Fatalf("%v: Take of an empty pool: %d, %v", k.c, b, ok)
		}
		if len(pool.List(k.g)) != 0 || pool.Len(k.g) != 0 {
			t.Fatalf("%v: List %v, Len %d of an empty pool", k.c, pool.List(k.g), pool.Len(k.g))
		}
		k.check(t, "nothing taken")
	}
}

// P10.1, P10.2: the chapter's example.
func TestExample(t *testing.T) {
	g, err := ground.New(api.Conf{N: 3, W: 16, R: 1, K: 1})
	if err != api.OK {
		t.Fatal(err)
	}
	if !pool.Open(g) {
		t.Error("Open: false")
	}
	for want := range 2 {
		if b, ok := pool.Take(g); b != want || !ok {
			t.Errorf("Take: %d, %v, not %d", b, ok, want)
		}
	}
	g.SetWord(0, 0, api.Leaf)
	if !pool.Give(g, 0) {
		t.Error("Give of 0: false")
	}
	if l := pool.List(g); !slices.Equal(l, []int{0, 2}) || pool.Len(g) != 2 {
		t.Error("List, Len:", l, pool.Len(g))
	}
}

// P10.1: all blocks stand in the pool, the block 0 first, and nothing else is set.
func TestOpen(t *testing.T) {
	for _, c := range confs {
		k := closed(t, c)
		if !k.open(t) {
			t.Fatalf("%v: Open: false", c)
		}
		l := pool.List(k.g)
		if len(l) != c.N || l[0] != 0 || l[c.N-1] != c.N-1 || !slices.IsSorted(l) {
			t.Errorf("%v: List of %d blocks", c, len(l))
		}
		k.check(t, "opened")
	}
}

// P10.1, P10.2: the pool is the chain 0.
func TestChain(t *testing.T) {
	k := open(t, some)
	for range 4 {
		if !slices.Equal(chain.List(k.g, 0), pool.List(k.g)) || chain.Len(k.g, 0) != pool.Len(k.g) {
			t.Errorf("List %v, of the chain 0: %v", pool.List(k.g), chain.List(k.g, 0))
		}
		b, _ := chain.First(k.g, 0)
		mustTake(t, k, b)
	}
}

// P10.1: a pool that is open already, with all its blocks, with some, and with one alone, wherever that came from.
func TestOpenAlready(t *testing.T) {
	for _, c := range confs[:4] {
		k := open(t, c)
		for len(k.pool) > 0 {
			if k.open(t) {
				t.Fatalf("%v: Open, where %d blocks are in the pool: true", c, len(k.pool))
			}
			k.check(t, "open already")
			mustTake(t, k, k.pool[0])
		}
		k.own(c.N-1, api.Small)
		mustGive(t, k, c.N-1)
		if k.open(t) {
			t.Errorf("%v: Open, where one block was given: true", c)
		}
		k.check(t, "one was given")
	}
}

// P10.1: a block stands in the chain 0 that was put there otherwise: that chain has one.
func TestOpenChain(t *testing.T) {
	for _, put := range []func(*ground.Ground, int, int) bool{chain.Push, chain.Add} {
		for _, b := range []int{0, 4, some.N - 1} {
			k := closed(t, some)
			put(k.g, 0, b)
			k.pool = []int{b}
			if k.open(t) {
				t.Errorf("Open, where %d stands in the chain 0: true", b)
			}
			k.check(t, "one was put")
		}
	}
}

// P10.1: where all are taken and nothing was set, all words are 0 again, and so it is opened again.
func TestOpenAgain(t *testing.T) {
	for _, c := range confs[:4] {
		k := closed(t, c)
		for range 3 {
			if !k.open(t) {
				t.Fatalf("%v: Open: false", c)
			}
			k.check(t, "opened")
			mustTake(t, k, slices.Clone(k.pool)...)
			k.check(t, "all taken")
			if slices.ContainsFunc(k.g.Words(), func(w uint32) bool { return w != 0 }) {
				t.Fatalf("%v: all are taken, and words are not 0", c)
			}
		}
	}
}

// P10.1, P10.2: a ground whose pool wasn't opened, and one that is emptied.
func TestNone(t *testing.T) {
	for _, c := range confs[:4] {
		k := closed(t, c)
		mustBeEmpty(t, k)
		for b := range c.N {
			mustRefuse(t, k, b)
		}
		k = emptied(t, c)
		mustBeEmpty(t, k)
		mustGive(t, k, c.N/2)
		mustTake(t, k, c.N/2)
		k.check(t, "the only one is taken")
		mustBeEmpty(t, k)
	}
}

// P10.2: all are taken, the block 0 first; of each all words are 0, whatever stood there, and nothing of the others is changed.
func TestTake(t *testing.T) {
	for _, c := range confs[:4] {
		k := open(t, c)
		k.check(t, "opened")
		for b := range c.N {
			mustTake(t, k, b)
			k.check(t, "taken")
		}
		mustBeEmpty(t, k)
	}
}

// P10.2: a block of any kind but Free is given, whatever its other bits are: its tag is 0, and it stands ahead of all others; but for its word 5 all else in it stays until it is taken.
func TestGive(t *testing.T) {
	for _, c := range confs[:4] {
		for _, w := range others {
			k := open(t, c)
			mustTake(t, k, 0)
			k.own(0, w)
			data := k.g.SeeWord(0, 9)
			mustGive(t, k, 0)
			if k.g.SeeWord(0, 0) != 0 || k.g.SeeWord(0, 9) != data || pool.List(k.g)[0] != 0 {
				t.Errorf("%v, the tag %#x: given: %d, %d; List %v", c, w, k.g.SeeWord(0, 0), k.g.SeeWord(0, 9), pool.List(k.g))
			}
			mustTake(t, k, 0)
			k.check(t, "taken again")
		}
	}
}

// P10.2, P10.3: all blocks are given in any order; the last one given is taken first.
func TestGiveAll(t *testing.T) {
	for _, c := range confs[:4] {
		for _, step := range []int{1, c.N - 1, 7} {
			k := emptied(t, c)
			var want []int
			for i := range c.N {
				b := (c.N - 1 + i*step) % c.N
				if !slices.Contains(want, b) {
					mustGive(t, k, b)
					want = slices.Insert(want, 0, b)
				}
			}
			mustTake(t, k, want...)
			mustBeEmpty(t, k)
		}
	}
}

// P10.2, P10.3: a block that is Free, in the pool or taken from it, is not given, and so not twice.
func TestGiveFree(t *testing.T) {
	for _, c := range confs[:4] {
		k := open(t, c)
		for b := range c.N {
			mustRefuse(t, k, b)
		}
		mustTake(t, k, 0)
		for b := range c.N {
			mustRefuse(t, k, b)
		}
		k.own(0, api.Leaf)
		mustGive(t, k, 0)
		mustRefuse(t, k, 0, c.N-1, 0)
	}
}

// P10.2: of a tag the kind alone is asked: a Free one with other bits isn't given, and keeps them.
func TestGiveFreeMarked(t *testing.T) {
	k := open(t, some)
	mustTake(t, k, 0, 1, 2)
	for _, w := range free {
		k.own(1, w)
		mustRefuse(t, k, 1)
		if got := k.g.SeeWord(1, 0); got != w {
			t.Errorf("the tag %#x, refused: %#x", w, got)
		}
	}
}

// P10.2: no block below 0, and none from N on, of a pool of all, of some, of none and of one that wasn't opened.
func TestGiveNoBlock(t *testing.T) {
	for _, c := range confs[:4] {
		k := open(t, c)
		mustRefuse(t, k, noBlocks(c.N)...)
		mustTake(t, k, 0)
		k.own(0, api.Spine)
		mustRefuse(t, k, noBlocks(c.N)...)
		mustRefuse(t, emptied(t, c), noBlocks(c.N)...)
		mustRefuse(t, closed(t, c), noBlocks(c.N)...)
	}
}

// P10.1, P10.2: a nil ground has no pool.
func TestNilGround(t *testing.T) {
	if pool.Open(nil) {
		t.Error("Open: true")
	}
	for _, b := range append(noBlocks(4), 0, 1, 3) {
		if pool.Give(nil, b) {
			t.Error("Give: true of", b)
		}
	}
	if b, ok := pool.Take(nil); b != 0 || ok {
		t.Errorf("Take: %d, %v", b, ok)
	}
	if n, l := pool.Len(nil), pool.List(nil); n != 0 || len(l) != 0 {
		t.Errorf("Len %d, List %v", n, l)
	}
}

// P10.2: what List answers is memory of its own.
func TestListIsNewMemory(t *testing.T) {
	k := open(t, api.Conf{N: 3, W: 16, R: 1, K: 1})
	one, other := pool.List(k.g), pool.List(k.g)
	one[0], one[2] = 8, 8
	if !slices.Equal(other, []int{0, 1, 2}) {
		t.Error("two answers share memory:", other)
	}
	k.check(t, "an answer is written into")
	mustTake(t, k, 0)
	if !slices.Equal(other, []int{0, 1, 2}) {
		t.Error("an answer is changed by a later call:", other)
	}
}

// P10.2: as many blocks as there may be; no call gets longer by it.
func TestGreatest(t *testing.T) {
	k := open(t, confs[4])
	for want := range k.c.N {
		got := 0
		k.metered(t, "Take", k.c.W+24, func() { got, _ = pool.Take(k.g) })
		if got != want {
			t.Fatalf("Take: %d, not %d", got, want)
		}
		k.g.SetWord(want, 0, api.Small)
	}
	if pool.Len(k.g) != 0 || len(k.list(t)) != 0 {
		t.Error("all are taken, but there are some:", pool.Len(k.g))
	}
	for b := range k.c.N {
		k.metered(t, "Give", 24, func() { pool.Give(k.g, b) })
	}
	if l := k.list(t); len(l) != k.c.N || l[0] != k.c.N-1 || l[k.c.N-1] != 0 || pool.Len(k.g) != k.c.N {
		t.Errorf("all are given: List of %d blocks, Len %d", len(l), pool.Len(k.g))
	}
}

// P10.1, P10.2, P10.3: the pool held against a plain list, over calls of all kinds; all other words stay, no block is there twice, and none is lost.
func TestAnyRow(t *testing.T) {
	for _, c := range []api.Conf{{N: 1, W: 16, R: 1, K: 1}, {N: 2, W: 16, R: 1, K: 1}, {N: 3, W: 18, R: 2, K: 5}, {N: 12, W: 16, R: 3, K: 1}} {
		k, seed := open(t, c), uint32(c.N)
		next := func(bound int) int {
			seed = seed*1664525 + 1013904223
			return int(seed>>8) % bound
		}
		taken := map[int]int{}
		for range 5000 {
			anyCall(t, k, taken, next)
			mustBeWhole(t, k, taken)
		}
	}
}

// anyCall does some call, and checks all. Of each block that is taken the map says of which kind it was made.
func anyCall(t *testing.T, k *kept, taken map[int]int, next func(int) int) {
	t.Helper()
	b := next(k.c.N+2) - 1
	kind, isTaken := taken[b]
	switch next(6) {
	case 0, 1:
		first, want := 0, len(k.pool) > 0
		if want {
			first = k.pool[0]
			taken[first] = api.Free
		}
		if got, ok := k.take(t); got != first || ok != want {
			t.Fatalf("Take: %d, %v, not %d", got, ok, first)
		}
	case 2:
		if isTaken {
			taken[b] = next(4)
			k.own(b, uint32(taken[b]|next(1<<15)<<2))
		}
	case 3, 4:
		if ok := k.give(t, b); ok != (isTaken && kind != api.Free) {
			t.Fatalf("Give of %d: %v", b, ok)
		} else if ok {
			delete(taken, b)
		}
	case 5:
		if len(k.pool) > 0 && k.open(t) {
			t.Fatalf("Open, where %d blocks are in the pool: true", len(k.pool))
		}
	}
	k.check(t, "any call")
}

// mustBeWhole tells where a block is in the pool twice, or is neither there nor taken, or both.
func mustBeWhole(t *testing.T, k *kept, taken map[int]int) {
	t.Helper()
	times := make([]int, k.c.N)
	for _, b := range pool.List(k.g) {
		times[b]++
	}
	for b, n := range times {
		if _, ok := taken[b]; n > 1 || ok == (n == 1) {
			t.Fatalf("the block %d is in the pool %d times; taken: %v", b, n, ok)
		}
	}
}

// P10.1, P10.2: all that is known of the pool are the ground's words: on another ground with the same ones all goes on, access by access.
func TestWordsAreAll(t *testing.T) {
	k := open(t, some)
	mustTake(t, k, 0, 1, 2, 3)
	k.own(2, api.Leaf)
	k.own(0, api.Small)
	mustGive(t, k, 2)
	other := closed(t, some)
	if !other.g.Load(k.g.Words()) {
		t.Fatal("Load")
	}
	other.others, other.pool = slices.Clone(k.others), slices.Clone(k.pool)
	other.check(t, "loaded")
	var rises [2]uint64
	for i, goesOn := range []*kept{k, other} {
		ahead := goesOn.g.Meter()
		if goesOn.open(t) {
			t.Error("Open: true")
		}
		mustGive(t, goesOn, 0)
		mustTake(t, goesOn, 0, 2, 4)
		mustRefuse(t, goesOn, 4)
		rises[i] = goesOn.g.Meter() - ahead
	}
	if rises[0] != rises[1] {
		t.Errorf("%d accesses, and %d", rises[0], rises[1])
	}
}

// P10.1, P10.2: where words were set otherwise nothing is promised but that each call ends, and is not long.
func TestSetOtherwise(t *testing.T) {
	values := []uint32{0, 1, 2, 3, 9, 10, 11, 1 << 20, 1 << 31, math.MaxUint32 - 1, math.MaxUint32}
	for _, first := range values {
		for _, last := range values {
			for _, link := range values {
				k := closed(t, some)
				l := k.g.Words()
				l[0], l[1], l[2] = first, last, link
				for b := range some.N {
					l[k.at(b, 0)], l[k.at(b, 5)] = link, link
				}
				if !k.g.Load(l) {
					t.Fatal("Load")
				}
				endsAll(t, k)
			}
		}
	}
}

// endsAll does each call, and tells where one makes too many accesses.
func endsAll(t *testing.T, k *kept) {
	t.Helper()
	for range 2 {
		k.metered(t, "Take", k.c.W+24, func() { pool.Take(k.g) })
		for _, b := range []int{0, 8, 8, 3} {
			k.metered(t, "Give", 24, func() { pool.Give(k.g, b) })
			k.metered(t, "List", 0, func() { pool.List(k.g) })
			pool.Len(k.g)
		}
		pool.Open(k.g)
	}
	k.metered(t, "Take", k.c.W+24, func() { pool.Take(k.g) })
}
