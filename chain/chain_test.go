package chain_test

import (
	"math"
	"slices"
	"testing"

	"quitrent/api"
	"quitrent/chain"
	"quitrent/ground"
)

// some is a configuration in which no two of N, W, R and the registers are one number.
var some = api.Conf{N: 9, W: 17, R: 5, K: 2}

// confs are configurations with one block, with a few and with as many as may be.
var confs = []api.Conf{{N: 1, W: 16, R: 1, K: 1}, {N: 2, W: 16, R: 3, K: 1}, some, {N: 30, W: 256, R: 7, K: 65536}, {N: 262144, W: 16, R: 4096, K: 1}}

// noChains are numbers of no chain; some are such as are one, if they go round or are cut to fewer bits.
var noChains = []int{-1, -2, -3, 2, 3, 4, 5, 6, 7, 8, 24, 256, 257, 1 << 32, 1<<32 + 1, 1 << 63 / 3, math.MaxInt32, math.MinInt32, math.MaxInt, math.MinInt, math.MinInt + 1}

// noBlocks answers numbers of no block of n; some are such as are one, if they go round or are cut to fewer bits.
func noBlocks(n int) []int {
	return []int{-1, -2, -n, -n - 1, n, n + 1, 2 * n, 1<<20 + n, 1 << 32, 1<<32 + 1, 1 << 60, 1 << 62, -1 << 32, math.MaxInt32, math.MinInt32, math.MaxInt, math.MaxInt - 1, math.MinInt, math.MinInt + 1}
}

// kept is a ground, and beside it what has to stand in it: both chains as plain lists, and all other words.
type kept struct {
	g      *ground.Ground
	c      api.Conf
	chains [2][]int
	others []uint32
}

// keep answers a ground with empty chains, all other words of which are some that are not 0.
func keep(t *testing.T, c api.Conf) *kept {
	t.Helper()
	g, err := ground.New(c)
	if err != api.OK {
		t.Fatalf("New(%v): %d", c, err)
	}
	l := g.Words()
	for i := range l {
		if i >= 6 {
			l[i] = uint32(i)*2654435761 | 1
		}
	}
	if !g.Load(l) {
		t.Fatalf("%v: Load", c)
	}
	return &kept{g: g, c: c, others: l}
}

// link is where in the store the word 5 of a block is.
func (k *kept) link(b int) int {
	return 24 + k.c.R + b*k.c.W + 5
}

// words answers all words, as the chapter lays the chains down.
func (k *kept) words() []uint32 {
	l := slices.Clone(k.others)
	for i, blocks := range k.chains {
		clear(l[3*i : 3*i+3])
		for j, b := range blocks {
			l[k.link(b)] = 0
			if j == 0 {
				l[3*i] = uint32(b + 1)
			} else {
				l[k.link(blocks[j-1])] = uint32(b + 1)
			}
			l[3*i+1] = uint32(b + 1)
		}
		l[3*i+2] = uint32(len(blocks))
	}
	return l
}

// check tells where the words are others than they should be, or what is asked of the chains is.
func (k *kept) check(t *testing.T, name string) {
	t.Helper()
	if got := k.g.Words(); !slices.Equal(got, k.words()) {
		t.Fatalf("%s: words %v, not %v", name, got, k.words())
	}
	for i, want := range k.chains {
		if got := k.list(t, i); !slices.Equal(got, want) {
			t.Fatalf("%s: List of %d: %v, not %v", name, i, got, want)
		}
		if got := k.len(t, i); got != len(want) {
			t.Fatalf("%s: Len of %d: %d, not %d", name, i, got, len(want))
		}
		first := 0
		if len(want) > 0 {
			first = want[0]
		}
		if got, ok := k.first(t, i); got != first || ok != (len(want) > 0) {
			t.Fatalf("%s: First of %d: %d, %v of %v", name, i, got, ok, want)
		}
	}
	if got := k.g.Words(); !slices.Equal(got, k.words()) {
		t.Fatalf("%s: asking changed the words to %v from %v", name, got, k.words())
	}
}

// metered does a call, and tells where it makes more accesses than it may.
func (k *kept) metered(t *testing.T, name string, most uint64, call func()) {
	t.Helper()
	ahead := k.g.Meter()
	call()
	if n := k.g.Meter() - ahead; n > most {
		t.Errorf("%s: %d accesses, more than %d", name, n, most)
	}
}

func (k *kept) push(t *testing.T, i, b int) (ok bool) {
	t.Helper()
	k.metered(t, "Push", 16, func() { ok = chain.Push(k.g, i, b) })
	if ok {
		k.chains[i] = slices.Insert(k.chains[i], 0, b)
	}
	return ok
}

func (k *kept) add(t *testing.T, i, b int) (ok bool) {
	t.Helper()
	k.metered(t, "Add", 16, func() { ok = chain.Add(k.g, i, b) })
	if ok {
		k.chains[i] = append(k.chains[i], b)
	}
	return ok
}

func (k *kept) take(t *testing.T, i int) (b int, ok bool) {
	t.Helper()
	k.metered(t, "Take", 16, func() { b, ok = chain.Take(k.g, i) })
	if ok && len(k.chains[i]) > 0 {
		// The block that should have come: whether it came is for the caller to ask.
		k.others[k.link(k.chains[i][0])] = 0
		k.chains[i] = k.chains[i][1:]
	}
	return b, ok
}

func (k *kept) first(t *testing.T, i int) (b int, ok bool) {
	t.Helper()
	k.metered(t, "First", 16, func() { b, ok = chain.First(k.g, i) })
	return b, ok
}

func (k *kept) len(t *testing.T, i int) (n int) {
	t.Helper()
	k.metered(t, "Len", 16, func() { n = chain.Len(k.g, i) })
	return n
}

func (k *kept) list(t *testing.T, i int) (l []int) {
	t.Helper()
	k.metered(t, "List", 0, func() { l = chain.List(k.g, i) })
	return l
}

// mustPut puts blocks, and tells where a call is false.
func mustPut(t *testing.T, put func(t *testing.T, i, b int) bool, i int, blocks ...int) {
	t.Helper()
	for _, b := range blocks {
		if !put(t, i, b) {
			t.Fatalf("the block %d to the chain %d: false", b, i)
		}
	}
}

// mustTake takes blocks, and tells where another one comes, or at the end one that should not.
func mustTake(t *testing.T, k *kept, i int, blocks ...int) {
	t.Helper()
	for _, b := range blocks {
		if got, ok := k.take(t, i); got != b || !ok {
			t.Fatalf("Take of %d: %d, %v, not %d", i, got, ok, b)
		}
	}
}

// P8.1, P8.2: the chapter's example, and its words.
func TestExample(t *testing.T) {
	g, err := ground.New(api.Conf{N: 8, W: 16, R: 1, K: 1})
	if err != api.OK {
		t.Fatal(err)
	}
	if !chain.Add(g, 1, 4) || !chain.Add(g, 1, 2) || !chain.Push(g, 1, 7) {
		t.Error("Add or Push: false")
	}
	if l := chain.List(g, 1); !slices.Equal(l, []int{7, 4, 2}) {
		t.Error("List:", l)
	}
	if g.SeeReg(3) != 8 || g.SeeReg(4) != 3 || g.SeeReg(5) != 3 {
		t.Error("the registers 3, 4, 5:", g.SeeReg(3), g.SeeReg(4), g.SeeReg(5))
	}
	if chain.Link != 5 || g.SeeWord(7, 5) != 5 || g.SeeWord(4, 5) != 3 || g.SeeWord(2, 5) != 0 {
		t.Error("the words 5 of 7, 4, 2:", g.SeeWord(7, 5), g.SeeWord(4, 5), g.SeeWord(2, 5))
	}
	for r := range 3 {
		if g.SeeReg(r) != 0 {
			t.Errorf("the register %d of the other chain: %d", r, g.SeeReg(r))
		}
	}
}

// P8.1, P8.2: an empty chain, new and behind its last block.
func TestEmpty(t *testing.T) {
	for _, c := range confs[:4] {
		for i := range 2 {
			k := keep(t, c)
			k.check(t, "new")
			for range 3 {
				if b, ok := k.take(t, i); b != 0 || ok {
					t.Errorf("%v: Take of an empty chain: %d, %v", c, b, ok)
				}
			}
			k.check(t, "nothing taken")
			mustPut(t, k.add, i, c.N-1)
			mustTake(t, k, i, c.N-1)
			k.check(t, "taken")
			if b, ok := k.take(t, i); b != 0 || ok || chain.Len(k.g, i) != 0 || len(chain.List(k.g, i)) != 0 {
				t.Errorf("%v: emptied, but Take: %d, %v", c, b, ok)
			}
			k.check(t, "nothing more taken")
		}
	}
}

// P8.1: a chain of one block, put by either call, taken and put again, whatever stood in its word 5.
func TestOne(t *testing.T) {
	for _, c := range confs[:4] {
		for i := range 2 {
			k := keep(t, c)
			for _, put := range []func(*testing.T, int, int) bool{k.push, k.add, k.push} {
				for _, b := range []int{0, c.N - 1, c.N / 2} {
					mustPut(t, put, i, b)
					k.check(t, "one")
					mustTake(t, k, i, b)
					k.check(t, "none")
				}
			}
		}
	}
}

// P8.1, P8.3: two blocks, each order, and who comes behind one that was put otherwise.
func TestTwo(t *testing.T) {
	k := keep(t, some)
	for i := range 2 {
		mustPut(t, k.push, i, 3, 0)
		k.check(t, "two pushed")
		mustTake(t, k, i, 0)
		k.check(t, "the last one pushed is taken")
		mustPut(t, k.add, i, 8)
		k.check(t, "one added behind what is left")
		mustTake(t, k, i, 3, 8)
		k.check(t, "emptied")
		mustPut(t, k.add, i, 0, 8)
		k.check(t, "two added")
		mustPut(t, k.push, i, 4)
		mustPut(t, k.add, i, 5)
		k.check(t, "one on each side")
		mustTake(t, k, i, 4, 0, 8, 5)
		k.check(t, "emptied again")
	}
}

// P8.1: First lets the block stand where it is.
func TestFirstStays(t *testing.T) {
	k := keep(t, some)
	mustPut(t, k.add, 1, 6, 2)
	for range 3 {
		if b, ok := k.first(t, 1); b != 6 || !ok {
			t.Errorf("First: %d, %v", b, ok)
		}
		k.check(t, "First")
	}
	mustTake(t, k, 1, 6)
	if b, ok := k.first(t, 1); b != 2 || !ok {
		t.Errorf("First behind Take: %d, %v", b, ok)
	}
}

// P8.1: no chain but 0 and 1.
func TestNoChain(t *testing.T) {
	for _, c := range confs[:3] {
		k := keep(t, c)
		for _, filled := range []bool{false, true} {
			if filled {
				mustPut(t, k.push, 1, c.N-1)
			}
			for _, i := range noChains {
				for _, b := range []int{0, c.N - 1, c.N, -1} {
					if k.push(t, i, b) || k.add(t, i, b) {
						t.Fatalf("%v: the block %d is put to the chain %d", c, b, i)
					}
				}
				if b, ok := k.take(t, i); b != 0 || ok {
					t.Fatalf("%v: Take of %d: %d, %v", c, i, b, ok)
				}
				if b, ok := k.first(t, i); b != 0 || ok {
					t.Fatalf("%v: First of %d: %d, %v", c, i, b, ok)
				}
				if n, l := k.len(t, i), k.list(t, i); n != 0 || len(l) != 0 {
					t.Fatalf("%v: Len of %d: %d, List %v", c, i, n, l)
				}
				k.check(t, "no such chain")
			}
		}
	}
}

// P8.1: no block below 0, and none from N on, to an empty chain, one of one block, and one of all.
func TestNoBlock(t *testing.T) {
	for _, c := range confs[:4] {
		for i := range 2 {
			for _, n := range []int{0, 1, c.N} {
				k := keep(t, c)
				for b := range n {
					mustPut(t, k.add, i, b)
				}
				for _, b := range noBlocks(c.N) {
					if k.push(t, i, b) || k.add(t, i, b) {
						t.Fatalf("%v: the block %d is put", c, b)
					}
				}
				k.check(t, "no such block")
			}
		}
	}
}

// P8.1, P8.2: of a nil ground there are no chains.
func TestNilGround(t *testing.T) {
	for _, i := range append(noChains, 0, 1) {
		for _, b := range append(noBlocks(4), 0, 1, 3) {
			if chain.Push(nil, i, b) || chain.Add(nil, i, b) {
				t.Errorf("the block %d is put to the chain %d", b, i)
			}
		}
		if b, ok := chain.Take(nil, i); b != 0 || ok {
			t.Errorf("Take of %d: %d, %v", i, b, ok)
		}
		if b, ok := chain.First(nil, i); b != 0 || ok {
			t.Errorf("First of %d: %d, %v", i, b, ok)
		}
		if n, l := chain.Len(nil, i), chain.List(nil, i); n != 0 || len(l) != 0 {
			t.Errorf("Len of %d: %d, List %v", i, n, l)
		}
	}
}

// P8.2: what List answers is memory of its own.
func TestListIsNewMemory(t *testing.T) {
	k := keep(t, some)
	mustPut(t, k.add, 0, 5, 1, 7)
	one, other := chain.List(k.g, 0), chain.List(k.g, 0)
	one[0], one[2] = 8, 8
	if !slices.Equal(other, []int{5, 1, 7}) {
		t.Error("two answers share memory:", other)
	}
	k.check(t, "an answer is written into")
	mustTake(t, k, 0, 5)
	if !slices.Equal(other, []int{5, 1, 7}) {
		t.Error("an answer is changed by a later call:", other)
	}
}

// P8.3: what is pushed is taken first, the last one ahead; what is added, in the order in which it was added.
func TestOrder(t *testing.T) {
	for i := range 2 {
		k := keep(t, some)
		mustPut(t, k.add, i, 4, 0, 8)
		mustPut(t, k.push, i, 7, 1)
		mustPut(t, k.add, i, 2)
		mustPut(t, k.push, i, 3)
		k.check(t, "put")
		mustTake(t, k, i, 3, 1, 7, 4, 0, 8, 2)
		k.check(t, "taken")
	}
}

// P8.1, P8.2, P8.3: all blocks of a ground, by turns to either chain, ahead and behind.
func TestAllBlocks(t *testing.T) {
	for _, c := range confs[:4] {
		k := keep(t, c)
		for b := range c.N {
			put := k.add
			if b%5 < 2 {
				put = k.push
			}
			mustPut(t, put, b%2, c.N-1-b)
		}
		k.check(t, "all put")
		for i := range 2 {
			mustTake(t, k, i, k.chains[i]...)
		}
		k.check(t, "all taken")
	}
}

// P8.1, P8.2: as many blocks as there may be; no call gets longer by it.
func TestGreatest(t *testing.T) {
	k := keep(t, confs[4])
	for b := k.c.N - 1; b >= 0; b-- {
		mustPut(t, k.add, 1, b)
	}
	k.check(t, "all added")
	mustTake(t, k, 1, k.chains[1]...)
	k.check(t, "all taken")
	for b := range k.c.N {
		k.metered(t, "Push", 16, func() { chain.Push(k.g, 0, b) })
	}
	if l := k.list(t, 0); len(l) != k.c.N || l[0] != k.c.N-1 || l[k.c.N-1] != 0 {
		t.Errorf("all pushed: List of %d blocks", len(l))
	}
	if b, ok := k.first(t, 0); b != k.c.N-1 || !ok || k.len(t, 0) != k.c.N {
		t.Errorf("all pushed: First %d, %v", b, ok)
	}
}

// P8.1, P8.2, P8.3: both chains by turns, held against plain lists, over calls of all kinds; all other words stay.
func TestAnyRow(t *testing.T) {
	for _, c := range []api.Conf{{N: 1, W: 16, R: 1, K: 1}, {N: 2, W: 16, R: 1, K: 1}, {N: 3, W: 18, R: 2, K: 5}, {N: 12, W: 16, R: 3, K: 1}} {
		k, seed := keep(t, c), uint32(c.N)
		next := func(bound int) int {
			seed = seed*1664525 + 1013904223
			return int(seed>>8) % bound
		}
		for range 5000 {
			anyCall(t, k, next)
		}
	}
}

// anyCall does some call, and checks all.
func anyCall(t *testing.T, k *kept, next func(int) int) {
	t.Helper()
	i, b := next(4)-1, next(k.c.N+2)-1
	isChain := i == 0 || i == 1
	isBlock := b >= 0 && b < k.c.N
	if slices.Contains(k.chains[0], b) || slices.Contains(k.chains[1], b) || next(3) == 0 {
		if !isChain || len(k.chains[i]) == 0 {
			if got, ok := k.take(t, i); got != 0 || ok {
				t.Fatalf("Take of %d: %d, %v", i, got, ok)
			}
		} else {
			mustTake(t, k, i, k.chains[i][0])
		}
		k.check(t, "Take")
		return
	}
	put := k.push
	if next(2) == 0 {
		put = k.add
	}
	if ok := put(t, i, b); ok != (isChain && isBlock) {
		t.Fatalf("the block %d to the chain %d: %v", b, i, ok)
	}
	k.check(t, "put")
}

// P8.1, P8.2: all that is known of a chain are the ground's words: on another ground with the same ones all goes on.
func TestWordsAreAll(t *testing.T) {
	k := keep(t, some)
	mustPut(t, k.add, 0, 1, 2)
	mustPut(t, k.push, 1, 4, 3)
	other := keep(t, some)
	if !other.g.Load(k.g.Words()) {
		t.Fatal("Load")
	}
	other.others, other.chains = slices.Clone(k.others), [2][]int{{1, 2}, {3, 4}}
	other.check(t, "loaded")
	mustPut(t, other.add, 1, 8)
	mustTake(t, other, 1, 3, 4, 8)
	other.check(t, "it goes on")
	k.check(t, "and here nothing is changed")
}

// P8.1, P8.2: where words were set otherwise nothing is promised but that each call ends, and is not long.
func TestSetOtherwise(t *testing.T) {
	values := []uint32{0, 1, 2, 3, 9, 10, 11, 1 << 20, 1 << 31, math.MaxUint32 - 1, math.MaxUint32}
	for _, first := range values {
		for _, last := range values {
			for _, link := range values {
				k := keep(t, some)
				l := k.g.Words()
				for i := range 2 {
					l[3*i], l[3*i+1], l[3*i+2] = first, last, link
				}
				for b := range some.N {
					l[k.link(b)] = link
				}
				if !k.g.Load(l) {
					t.Fatal("Load")
				}
				endsAll(t, k)
			}
		}
	}
}

// endsAll does each call of both chains, and tells where one makes too many accesses.
func endsAll(t *testing.T, k *kept) {
	t.Helper()
	for i := range 2 {
		k.metered(t, "List", 0, func() { chain.List(k.g, i) })
		for _, call := range []func(){
			func() { chain.First(k.g, i) }, func() { chain.Len(k.g, i) }, func() { chain.Take(k.g, i) },
			func() { chain.Push(k.g, i, 8) }, func() { chain.Push(k.g, i, 8) }, func() { chain.Add(k.g, i, 8) },
			func() { chain.Take(k.g, i) }, func() { chain.Take(k.g, i) },
		} {
			k.metered(t, "a call", 16, call)
		}
		k.metered(t, "List", 0, func() { chain.List(k.g, i) })
	}
}
