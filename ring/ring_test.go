package ring_test

import (
	"math"
	"slices"
	"testing"

	"quitrent/api"
	"quitrent/ground"
	"quitrent/ring"
	"quitrent/tag"
)

// some is a configuration in which no two of N, W, R and the registers are one number.
var some = api.Conf{N: 9, W: 17, R: 5, K: 2}

// confs are configurations with one block, with a few and with as many as may be.
var confs = []api.Conf{{N: 1, W: 16, R: 1, K: 1}, {N: 2, W: 16, R: 3, K: 1}, some, {N: 30, W: 256, R: 7, K: 65536}, {N: 262144, W: 16, R: 4096, K: 1}}

// ringBit is the mark Ring in a tag's word.
const ringBit = 1 << 6

// noBlocks answers numbers of no block of n; some are such as are one, if they go round or are cut to fewer bits.
func noBlocks(n int) []int {
	return []int{-1, -2, -n, -n - 1, n, n + 1, 2 * n, 1<<20 + n, 1 << 32, 1<<32 + 1, 1 << 60, 1 << 62, -1 << 32, math.MaxInt32, math.MinInt32, math.MaxInt, math.MaxInt - 1, math.MinInt, math.MinInt + 1}
}

// kept is a ground, and beside it what has to stand in it: the ring as a plain list, and all other words.
type kept struct {
	g      *ground.Ground
	c      api.Conf
	ring   []int
	others []uint32
}

// keep answers a ground with an empty ring. Its blocks are heads of both kinds by turns, with marks of all kinds but Ring; all its other words are some that are not 0.
func keep(t *testing.T, c api.Conf) *kept {
	t.Helper()
	g, err := ground.New(c)
	if err != api.OK {
		t.Fatalf("New(%v): %d", c, err)
	}
	l := g.Words()
	for i := range l {
		if i < 7 || i > 9 {
			l[i] = uint32(i)*2654435761 | 1
		}
	}
	k := &kept{g: g, c: c, others: l}
	for b := range c.N {
		l[k.at(b, 0)] = uint32(1+b%2) | uint32(b/2%16)<<2
	}
	if !g.Load(l) {
		t.Fatalf("%v: Load", c)
	}
	return k
}

// at is where in the store a word of a block is.
func (k *kept) at(b, w int) int {
	return 24 + k.c.R + b*k.c.W + w
}

// setTag makes a word the tag of a block that doesn't stand in the ring.
func (k *kept) setTag(b int, w uint32) {
	k.g.SetWord(b, 0, w)
	k.others[k.at(b, 0)] = w
}

// words answers all words, as the chapter lays the ring down.
func (k *kept) words() []uint32 {
	l := slices.Clone(k.others)
	clear(l[7:10])
	for i, b := range k.ring {
		l[k.at(b, 0)] |= ringBit
		l[k.at(b, 6)], l[k.at(b, 7)] = 0, 0
		if i == 0 {
			l[7] = uint32(b + 1)
		} else {
			l[k.at(b, 6)] = uint32(k.ring[i-1] + 1)
			l[k.at(k.ring[i-1], 7)] = uint32(b + 1)
		}
		l[8] = uint32(b + 1)
	}
	l[9] = uint32(len(k.ring))
	return l
}

// check tells where the words are others than they should be, or what is asked of the ring is.
func (k *kept) check(t *testing.T, name string) {
	t.Helper()
	if got := k.g.Words(); !slices.Equal(got, k.words()) {
		t.Fatalf("%s: words %v, not %v", name, got, k.words())
	}
	if got := k.list(t); !slices.Equal(got, k.ring) {
		t.Fatalf("%s: List: %v, not %v", name, got, k.ring)
	}
	if got := k.len(t); got != len(k.ring) {
		t.Fatalf("%s: Len: %d, not %d", name, got, len(k.ring))
	}
	for b := range min(k.c.N, 30) {
		if got := k.has(t, b); got != slices.Contains(k.ring, b) {
			t.Fatalf("%s: Has of %d: %v of %v", name, b, got, k.ring)
		}
	}
	if got := k.g.Words(); !slices.Equal(got, k.words()) {
		t.Fatalf("%s: asking changed the words to %v from %v", name, got, k.words())
	}
}

// metered does a call, and tells where it makes more accesses than it may.
func (k *kept) metered(t *testing.T, name string, most uint64, call func()) {
	t.Helper()
	ahead := k.g.Meter()
	call()
	if n := k.g.Meter() - ahead; n > most {
		t.Errorf("%s: %d accesses, more than %d", name, n, most)
	}
}

func (k *kept) add(t *testing.T, b int) (ok bool) {
	t.Helper()
	k.metered(t, "Add", 24, func() { ok = ring.Add(k.g, b) })
	if ok {
		k.ring = append(k.ring, b)
	}
	return ok
}

func (k *kept) cut(t *testing.T, b int) (ok bool) {
	t.Helper()
	k.metered(t, "Cut", 24, func() { ok = ring.Cut(k.g, b) })
	if ok {
		k.leave(b)
	}
	return ok
}

func (k *kept) take(t *testing.T) (b int, ok bool) {
	t.Helper()
	k.metered(t, "Take", 24, func() { b, ok = ring.Take(k.g) })
	if ok && len(k.ring) > 0 {
		// The block that should have come: whether it came is for the caller to ask.
		k.leave(k.ring[0])
	}
	return b, ok
}

// leave lets a block stand in the plain list no more.
func (k *kept) leave(b int) {
	k.ring = slices.DeleteFunc(slices.Clone(k.ring), func(other int) bool { return other == b })
	k.others[k.at(b, 6)], k.others[k.at(b, 7)] = 0, 0
}

func (k *kept) len(t *testing.T) (n int) {
	t.Helper()
	k.metered(t, "Len", 24, func() { n = ring.Len(k.g) })
	return n
}

func (k *kept) has(t *testing.T, b int) (ok bool) {
	t.Helper()
	k.metered(t, "Has", 24, func() { ok = ring.Has(k.g, b) })
	return ok
}

func (k *kept) list(t *testing.T) (l []int) {
	t.Helper()
	k.metered(t, "List", 0, func() { l = ring.List(k.g) })
	return l
}

// mustAdd adds blocks, and tells where a call is false.
func mustAdd(t *testing.T, k *kept, blocks ...int) {
	t.Helper()
	for _, b := range blocks {
		if !k.add(t, b) {
			t.Fatalf("Add of %d: false", b)
		}
		k.check(t, "Add")
	}
}

// mustCut cuts blocks, and tells where a call is false.
func mustCut(t *testing.T, k *kept, blocks ...int) {
	t.Helper()
	for _, b := range blocks {
		if !k.cut(t, b) {
			t.Fatalf("Cut of %d: false", b)
		}
		k.check(t, "Cut")
	}
}

// mustTake takes blocks, and tells where another one comes.
func mustTake(t *testing.T, k *kept, blocks ...int) {
	t.Helper()
	for _, b := range blocks {
		if got, ok := k.take(t); got != b || !ok {
			t.Fatalf("Take: %d, %v, not %d", got, ok, b)
		}
		k.check(t, "Take")
	}
}

// refuses tells where a block is added or cut, or taken to stand there.
func refuses(t *testing.T, k *kept, b int) {
	t.Helper()
	if k.add(t, b) || k.cut(t, b) || k.has(t, b) {
		t.Fatalf("%v: the block %d, with the tag %#x: it is added, cut, or there", k.c, b, k.g.SeeWord(b, 0))
	}
	k.check(t, "refused")
}

// P9.1, P9.2: the chapter's example, and its words.
func TestExample(t *testing.T) {
	g, err := ground.New(api.Conf{N: 6, W: 16, R: 1, K: 1})
	if err != api.OK {
		t.Fatal(err)
	}
	for b := range 6 {
		g.SetWord(b, 0, 1)
	}
	if !ring.Add(g, 3) || !ring.Add(g, 1) || !ring.Add(g, 5) || !ring.Cut(g, 1) {
		t.Error("Add or Cut: false")
	}
	if l := ring.List(g); !slices.Equal(l, []int{3, 5}) {
		t.Error("List:", l)
	}
	if ring.Prev != 6 || ring.Next != 7 || g.SeeWord(3, 7) != 6 || g.SeeWord(5, 6) != 4 {
		t.Error("the word 7 of 3, the word 6 of 5:", g.SeeWord(3, 7), g.SeeWord(5, 6))
	}
	if g.SeeReg(7) != 4 || g.SeeReg(8) != 6 || g.SeeReg(9) != 2 {
		t.Error("the registers 7, 8, 9:", g.SeeReg(7), g.SeeReg(8), g.SeeReg(9))
	}
	if g.SeeWord(1, 0) != 1 || g.SeeWord(1, 6) != 0 || g.SeeWord(1, 7) != 0 || g.SeeWord(3, 0) != 65 {
		t.Error("the tag and the links of 1, the tag of 3:", g.SeeWord(1, 0), g.SeeWord(1, 6), g.SeeWord(1, 7), g.SeeWord(3, 0))
	}
}

// P9.1, P9.2: a ring of none, new and behind its last block.
func TestNone(t *testing.T) {
	for _, c := range confs[:4] {
		k := keep(t, c)
		k.check(t, "new")
		for _, leave := range []func(){func() { mustTake(t, k, c.N-1) }, func() { mustCut(t, k, c.N-1) }, func() {}} {
			for range 3 {
				if b, ok := k.take(t); b != 0 || ok {
					t.Errorf("%v: Take of none: %d, %v", c, b, ok)
				}
				k.check(t, "nothing taken")
			}
			for b := range c.N {
				if k.cut(t, b) {
					t.Errorf("%v: Cut of %d, where there is none", c, b)
				}
				k.check(t, "nothing cut")
			}
			mustAdd(t, k, c.N-1)
			leave()
		}
	}
}

// P9.1, P9.2: a ring of one, which is cut or taken and added again, whatever stood in its words 6 and 7.
func TestOne(t *testing.T) {
	for _, c := range confs[:4] {
		k := keep(t, c)
		for _, b := range []int{0, c.N - 1, c.N / 2, 0} {
			mustAdd(t, k, b)
			mustCut(t, k, b)
			k.g.SetWord(b, 6, 3)
			k.g.SetWord(b, 7, math.MaxUint32)
			mustAdd(t, k, b)
			mustTake(t, k, b)
		}
	}
}

// P9.1, P9.3: the first one, the last one and each between is cut out of a ring, and added again behind all others.
func TestCutAnywhere(t *testing.T) {
	for n := 2; n <= some.N; n++ {
		for i := range n {
			k := keep(t, some)
			order := []int{4, 0, 8, 2, 7, 1, 3, 6, 5}[:n]
			mustAdd(t, k, order...)
			mustCut(t, k, order[i])
			if k.has(t, order[i]) || k.cut(t, order[i]) {
				t.Fatalf("%d is cut, and still there", order[i])
			}
			k.check(t, "cut again")
			mustAdd(t, k, order[i])
			rest := slices.Concat(order[:i], order[i+1:], order[i:i+1])
			mustTake(t, k, rest...)
		}
	}
}

// P9.1, P9.3: neighbours are cut, from the left and from the right, until none is left.
func TestCutNeighbours(t *testing.T) {
	order := []int{4, 0, 8, 2, 7}
	for first := range order {
		for second := range order {
			for third := range order {
				if first == second || second == third || first == third {
					continue
				}
				k := keep(t, some)
				mustAdd(t, k, order...)
				mustCut(t, k, order[first], order[second], order[third])
				mustTake(t, k, slices.Clone(k.ring)...)
			}
		}
	}
}

// P9.1: who is in the ring already is not added, whether it is the first one, the last one or between.
func TestAddTwice(t *testing.T) {
	k := keep(t, some)
	mustAdd(t, k, 3)
	if k.add(t, 3) {
		t.Error("the only one is added again")
	}
	k.check(t, "the only one")
	mustAdd(t, k, 8, 0)
	for _, b := range []int{3, 8, 0} {
		if k.add(t, b) {
			t.Error("it is added again:", b)
		}
		k.check(t, "added again")
	}
}

// P9.1, P9.2: blocks of the kinds Free and Leaf, whatever stands in the other bits, into a ring of none and of some.
func TestKinds(t *testing.T) {
	k := keep(t, some)
	for _, filled := range []bool{false, true} {
		if filled {
			mustAdd(t, k, 0, 8, 4)
		}
		for _, kind := range []uint32{api.Free, api.Leaf} {
			for _, other := range []uint32{0, 1 << 2, 1 << 3, 1 << 4, 1 << 5, ringBit, 1 << 7, 1 << 8, 1 << 31, math.MaxUint32 &^ 3} {
				for _, b := range []int{1, 5} {
					k.setTag(b, kind|other)
					refuses(t, k, b)
				}
			}
		}
	}
}

// P9.1, P9.2: blocks of the kinds Small and Spine, of any marks: all other bits of the tag are kept, those too that no right tag has.
func TestOtherBitsAreKept(t *testing.T) {
	k := keep(t, some)
	mustAdd(t, k, 8)
	for _, kind := range []uint32{api.Small, api.Spine} {
		for marks := range uint32(16) {
			for _, other := range []uint32{0, 1 << 7, 1 << 8, 1 << 31, math.MaxUint32 &^ 127} {
				w := kind | marks<<2 | other
				k.setTag(2, w)
				mustAdd(t, k, 2)
				if got := k.g.SeeWord(2, 0); got != w|ringBit {
					t.Fatalf("the tag %#x, added: %#x", w, got)
				}
				mustCut(t, k, 2)
				if got := k.g.SeeWord(2, 0); got != w {
					t.Fatalf("the tag %#x, cut: %#x", w, got)
				}
				mustAdd(t, k, 2)
				mustTake(t, k, 8)
				mustTake(t, k, 2)
				if got := k.g.SeeWord(2, 0); got != w {
					t.Fatalf("the tag %#x, taken: %#x", w, got)
				}
				mustAdd(t, k, 8)
			}
		}
	}
}

// P9.1, P9.2: the mark is that of layer 6.
func TestMark(t *testing.T) {
	k := keep(t, some)
	for _, want := range []api.Tag{{Kind: api.Small}, {Kind: api.Spine, Color: 1, Shade: 1}, {Kind: api.Small, Count: 1, Dead: 1}} {
		w, err := tag.Pack(want)
		if err != api.OK {
			t.Fatal(want, err)
		}
		k.setTag(5, w)
		mustAdd(t, k, 5)
		want.Ring = 1
		if got := tag.Unpack(k.g.SeeWord(5, 0)); got != want {
			t.Errorf("added: %v, not %v", got, want)
		}
		mustCut(t, k, 5)
		want.Ring = 0
		if got := tag.Unpack(k.g.SeeWord(5, 0)); got != want {
			t.Errorf("cut: %v, not %v", got, want)
		}
	}
}

// P9.2: Has asks for the kind and the mark alone.
func TestHas(t *testing.T) {
	k := keep(t, some)
	for kind := range uint32(4) {
		for _, other := range []uint32{0, 1 << 2, 1 << 5, 1 << 7, 1 << 8, math.MaxUint32 &^ 127} {
			for _, bit := range []uint32{0, ringBit} {
				k.setTag(3, kind|other|bit)
				want := (kind == api.Small || kind == api.Spine) && bit != 0
				if got := k.has(t, 3); got != want {
					t.Errorf("the tag %#x: %v", kind|other|bit, got)
				}
			}
		}
	}
}

// P9.1, P9.2: no block below 0, and none from N on, of a ring of none, of one and of all.
func TestNoBlock(t *testing.T) {
	for _, c := range confs[:4] {
		for _, n := range []int{0, 1, c.N} {
			k := keep(t, c)
			for b := range n {
				mustAdd(t, k, b)
			}
			for _, b := range noBlocks(c.N) {
				refuses(t, k, b)
			}
		}
	}
}

// P9.1, P9.2: of a nil ground there is no ring.
func TestNilGround(t *testing.T) {
	for _, b := range append(noBlocks(4), 0, 1, 3) {
		if ring.Add(nil, b) || ring.Cut(nil, b) || ring.Has(nil, b) {
			t.Error("the block is added, cut, or there:", b)
		}
	}
	if b, ok := ring.Take(nil); b != 0 || ok {
		t.Errorf("Take: %d, %v", b, ok)
	}
	if n, l := ring.Len(nil), ring.List(nil); n != 0 || len(l) != 0 {
		t.Errorf("Len %d, List %v", n, l)
	}
}

// P9.2: what List answers is memory of its own.
func TestListIsNewMemory(t *testing.T) {
	k := keep(t, some)
	mustAdd(t, k, 5, 1, 7)
	one, other := ring.List(k.g), ring.List(k.g)
	one[0], one[2] = 8, 8
	if !slices.Equal(other, []int{5, 1, 7}) {
		t.Error("two answers share memory:", other)
	}
	k.check(t, "an answer is written into")
	mustTake(t, k, 5)
	if !slices.Equal(other, []int{5, 1, 7}) {
		t.Error("an answer is changed by a later call:", other)
	}
}

// P9.3: what is added is taken in its order, without what was cut; who was cut may be added again.
func TestOrder(t *testing.T) {
	k := keep(t, some)
	mustAdd(t, k, 4, 0, 8, 7, 1)
	mustCut(t, k, 8, 4)
	mustAdd(t, k, 2, 4)
	mustTake(t, k, 0, 7)
	mustCut(t, k, 4)
	mustAdd(t, k, 0, 8)
	mustTake(t, k, 1, 2, 0, 8)
	if b, ok := k.take(t); b != 0 || ok {
		t.Errorf("nothing is left, but Take: %d, %v", b, ok)
	}
}

// P9.1, P9.2: as many blocks as there may be; no call gets longer by it.
func TestGreatest(t *testing.T) {
	k := keep(t, confs[4])
	for b := k.c.N - 1; b >= 0; b-- {
		k.metered(t, "Add", 24, func() { ring.Add(k.g, b) })
		k.ring = append(k.ring, b)
	}
	k.check(t, "all added")
	for b := range k.c.N {
		if b%3 == 0 {
			k.metered(t, "Cut", 24, func() { ring.Cut(k.g, b) })
		}
	}
	l := k.list(t)
	if len(l) != k.c.N*2/3 || slices.ContainsFunc(l, func(b int) bool { return b%3 == 0 }) {
		t.Errorf("a third is cut: List of %d blocks", len(l))
	}
	for _, b := range l {
		var got int
		k.metered(t, "Take", 24, func() { got, _ = ring.Take(k.g) })
		if got != b {
			t.Fatalf("Take: %d, not %d", got, b)
		}
	}
	if k.len(t) != 0 || k.g.SeeReg(7) != 0 || k.g.SeeReg(8) != 0 {
		t.Error("all are taken, but there are some")
	}
}

// P9.1, P9.2, P9.3: the ring held against a plain list, over calls of all kinds; all other words stay.
func TestAnyRow(t *testing.T) {
	for _, c := range []api.Conf{{N: 1, W: 16, R: 1, K: 1}, {N: 2, W: 16, R: 1, K: 1}, {N: 3, W: 18, R: 2, K: 5}, {N: 12, W: 16, R: 3, K: 1}} {
		k, seed := keep(t, c), uint32(c.N)
		next := func(bound int) int {
			seed = seed*1664525 + 1013904223
			return int(seed>>8) % bound
		}
		for range 5000 {
			anyCall(t, k, next)
		}
	}
}

// anyCall does some call, and checks all.
func anyCall(t *testing.T, k *kept, next func(int) int) {
	t.Helper()
	b := next(k.c.N+2) - 1
	isBlock := b >= 0 && b < k.c.N
	there := slices.Contains(k.ring, b)
	if isBlock && !there && next(4) == 0 {
		k.setTag(b, []uint32{1, 2, 2 | 15<<2, 1, 0, 3 | 7<<8}[next(6)])
	}
	kind := k.g.SeeWord(b, 0) & 3
	isHead := isBlock && (kind == 1 || kind == 2)
	switch next(5) {
	case 0, 1:
		if ok := k.add(t, b); ok != (isHead && !there) {
			t.Fatalf("Add of %d: %v", b, ok)
		}
	case 2, 3:
		if ok := k.cut(t, b); ok != there {
			t.Fatalf("Cut of %d: %v", b, ok)
		}
	case 4:
		if len(k.ring) > 0 {
			mustTake(t, k, k.ring[0])
		} else if got, ok := k.take(t); got != 0 || ok {
			t.Fatalf("Take of none: %d, %v", got, ok)
		}
	}
	k.check(t, "any call")
}

// P9.1, P9.2: all that is known of the ring are the ground's words: on another ground with the same ones all goes on.
func TestWordsAreAll(t *testing.T) {
	k := keep(t, some)
	mustAdd(t, k, 1, 2, 6)
	other := keep(t, some)
	if !other.g.Load(k.g.Words()) {
		t.Fatal("Load")
	}
	other.others, other.ring = slices.Clone(k.others), []int{1, 2, 6}
	other.check(t, "loaded")
	mustAdd(t, other, 8)
	mustCut(t, other, 2)
	mustTake(t, other, 1, 6, 8)
	k.check(t, "and here nothing is changed")
}

// P9.1, P9.2: where words were set otherwise nothing is promised but that each call ends, and is not long.
func TestSetOtherwise(t *testing.T) {
	values := []uint32{0, 1, 2, 3, 9, 10, 11, 1 << 20, 1 << 31, math.MaxUint32 - 1, math.MaxUint32}
	for _, first := range values {
		for _, last := range values {
			for _, link := range values {
				for _, bit := range []uint32{0, ringBit} {
					k := keep(t, some)
					l := k.g.Words()
					l[7], l[8], l[9] = first, last, link
					for b := range some.N {
						l[k.at(b, 0)] |= bit
						l[k.at(b, 6)], l[k.at(b, 7)] = link, link
					}
					if !k.g.Load(l) {
						t.Fatal("Load")
					}
					endsAll(t, k)
				}
			}
		}
	}
}

// endsAll does each call, and tells where one makes too many accesses.
func endsAll(t *testing.T, k *kept) {
	t.Helper()
	for _, call := range []func(){
		func() { ring.Len(k.g) }, func() { ring.Take(k.g) }, func() { ring.Add(k.g, 8) }, func() { ring.Has(k.g, 8) },
		func() { ring.Cut(k.g, 8) }, func() { ring.Cut(k.g, 0) }, func() { ring.Add(k.g, 0) }, func() { ring.Add(k.g, 0) },
		func() { ring.Take(k.g) }, func() { ring.Take(k.g) },
	} {
		k.metered(t, "a call", 24, call)
		k.metered(t, "List", 0, func() { ring.List(k.g) })
	}
}
