package count_test

import (
	"math"
	"slices"
	"testing"

	"quitrent/api"
	"quitrent/count"
	"quitrent/ground"
	"quitrent/obj"
	"quitrent/pool"
	"quitrent/shape"
)

// some is a configuration with room for some objects; no two of its numbers are one.
var some = api.Conf{N: 40, W: 18, R: 5, K: 2}

// confs are configurations with one block, with the least width, with the greatest and with some between.
var confs = []api.Conf{{N: 1, W: 16, R: 1, K: 1}, {N: 12, W: 16, R: 2, K: 1}, some, {N: 260, W: 256, R: 7, K: 65536}}

// most is the greatest count.
const most = math.MaxUint32

// edges are counts at which a word, a number with a sign or one of fewer bits would go round, and some beside them.
var edges = []int{0, 1, 2, 3, 255, 256, 65535, 65536, math.MaxInt32 - 1, math.MaxInt32, math.MaxInt32 + 1, math.MaxInt32 + 2, most - 2, most - 1, most}

// far are numbers that are far from all that there is; some would be a reference, if they went round or were cut to fewer bits.
var far = []int{math.MinInt, math.MinInt + 1, math.MinInt + 2, -1 << 62, -1 << 32, math.MinInt32, -1000, 1 << 20, 1<<20 + 1, math.MaxInt32, 1 << 32, 1<<32 + 1, 1<<32 + 2, 1 << 50, 1 << 60, 1 << 62, math.MaxInt - 1, math.MaxInt}

// kept is a ground with an opened pool, and beside it what has to stand in it: all words, and the counts of all objects by their references.
type kept struct {
	g      *ground.Ground
	c      api.Conf
	words  []uint32
	counts map[int]int
}

// open answers a ground with an opened pool. Its blocks' words are some that are not 0, but for tags and the pool's links.
func open(t *testing.T, c api.Conf) *kept {
	t.Helper()
	g, err := ground.New(c)
	if err != api.OK || !pool.Open(g) {
		t.Fatalf("%v: %d", c, err)
	}
	k := &kept{g: g, c: c, counts: map[int]int{}}
	for b := range c.N {
		for w := range c.W {
			if w != 0 && w != 5 {
				g.SetWord(b, w, uint32(b*c.W+w)*2654435761|1)
			}
		}
	}
	k.words = g.Words()
	return k
}

// make answers a new object's reference; its count is 0.
func (k *kept) make(t *testing.T, nptr, ndata int) int {
	t.Helper()
	r, err := obj.Make(k.g, nptr, ndata)
	if err != api.OK {
		t.Fatalf("%v: Make(%d, %d): %d", k.c, nptr, ndata, err)
	}
	k.words = k.g.Words()
	k.counts[r] = 0
	return r
}

// some makes objects of one block, of a head and one leaf, of a head and many, as far as there is room, and answers their references.
func (k *kept) some(t *testing.T) []int {
	t.Helper()
	var l []int
	for _, n := range [][2]int{{0, 0}, {3, 2}, {k.c.W - 8, 0}, {2, k.c.W - 9}, {0, 3 * k.c.W}, {1, 1}} {
		if blocks, err := shape.Blocks(k.c.W, n[0], n[1]); err == api.OK && blocks <= pool.Len(k.g) {
			l = append(l, k.make(t, n[0], n[1]))
		}
	}
	return l
}

// fill makes the fields of an object, the marks of its tag, and the words of its head that are not its tag, its sizes or its count, some that are not 0.
func (k *kept) fill(t *testing.T, r, seed int) {
	t.Helper()
	nptr, ndata, err := obj.Lens(k.g, r)
	if err != api.OK {
		t.Fatalf("%v: Lens of %d: %d", k.c, r, err)
	}
	for i := range nptr {
		obj.SetPtr(k.g, r, i, (seed+i)%(k.c.N+1))
	}
	for i := range ndata {
		obj.SetData(k.g, r, i, uint32(seed+i)*2654435761|1)
	}
	for w := 4; w < 8; w++ {
		k.g.SetWord(r-1, w, uint32(seed*31+w)*2246822519|1)
	}
	k.g.SetWord(r-1, 0, k.g.SeeWord(r-1, 0)&3|uint32(seed%31+1)<<2)
	k.words = k.g.Words()
}

// at is where in the store an object's count has to be.
func (k *kept) at(r int) int {
	return 24 + k.c.R + (r-1)*k.c.W + 3
}

// set makes n an object's count, by the word where it lies.
func (k *kept) set(t *testing.T, r, n int) {
	t.Helper()
	if !k.g.SetWord(r-1, 3, uint32(n)) {
		t.Fatalf("%v: the word 3 of %d is not set", k.c, r-1)
	}
	k.counts[r] = n
}

// check tells where the words are others than they should be, or a count is told that isn't one.
func (k *kept) check(t *testing.T, name string) {
	t.Helper()
	for r, n := range k.counts {
		if got := k.of(t, r); got != n {
			t.Fatalf("%v, %s: Of of %d: %d, not %d", k.c, name, r, got, n)
		}
		if got := k.see(t, r); got != n {
			t.Fatalf("%v, %s: See of %d: %d, not %d", k.c, name, r, got, n)
		}
		k.words[k.at(r)] = uint32(n)
	}
	got := k.g.Words()
	if slices.Equal(got, k.words) {
		return
	}
	for i := range got {
		if got[i] != k.words[i] {
			t.Fatalf("%v, %s: the word %d of the store is %d, not %d", k.c, name, i, got[i], k.words[i])
		}
	}
}

// metered does a call, and tells where it makes more accesses than it may.
func (k *kept) metered(t *testing.T, name string, bound uint64, call func()) {
	t.Helper()
	ahead := k.g.Meter()
	call()
	if n := k.g.Meter() - ahead; n > bound {
		t.Errorf("%v, %s: %d accesses, more than %d", k.c, name, n, bound)
	}
}

func (k *kept) of(t *testing.T, r int) (n int) {
	t.Helper()
	k.metered(t, "Of", 8, func() { n = count.Of(k.g, r) })
	return n
}

func (k *kept) see(t *testing.T, r int) (n int) {
	t.Helper()
	k.metered(t, "See", 0, func() { n = count.See(k.g, r) })
	return n
}

// up counts an object up, and tells where the answer isn't what it has to be.
func (k *kept) up(t *testing.T, r int) {
	t.Helper()
	k.counted(t, "Up", r, k.counts[r]+1, count.Up)
}

// down counts an object down, likewise.
func (k *kept) down(t *testing.T, r int) {
	t.Helper()
	k.counted(t, "Down", r, k.counts[r]-1, count.Down)
}

// counted does a call that has to make the count of r want, or to do nothing, where there is no such object or no such count.
func (k *kept) counted(t *testing.T, name string, r, want int, call func(*ground.Ground, int) (int, bool)) {
	t.Helper()
	_, wantOK := k.counts[r]
	if !wantOK || want < 0 || want > most {
		want, wantOK = 0, false
	}
	var n int
	var ok bool
	k.metered(t, name, 8, func() { n, ok = call(k.g, r) })
	if n != want || ok != wantOK {
		t.Fatalf("%v: %s of %d: %d, %v, not %d, %v", k.c, name, r, n, ok, want, wantOK)
	}
	if wantOK {
		k.counts[r] = want
	}
}

// isNone tells where a call takes r for an object's reference.
func (k *kept) isNone(t *testing.T, r int) {
	t.Helper()
	if n := k.of(t, r); n != 0 {
		t.Errorf("%v: Of of %d: %d", k.c, r, n)
	}
	if n := k.see(t, r); n != 0 {
		t.Errorf("%v: See of %d: %d", k.c, r, n)
	}
	k.up(t, r)
	k.down(t, r)
}

// P12.1: the chapter's example.
func TestExample(t *testing.T) {
	g, err := ground.New(api.Conf{N: 2, W: 16, R: 1, K: 1})
	if err != api.OK || !pool.Open(g) {
		t.Fatal(err)
	}
	r, _ := obj.Make(g, 1, 1)
	for i, m := range []struct {
		call func(*ground.Ground, int) (int, bool)
		n    int
		ok   bool
	}{{count.Up, 1, true}, {count.Up, 2, true}, {count.Down, 1, true}, {count.Down, 0, true}, {count.Down, 0, false}} {
		if n, ok := m.call(g, r); n != m.n || ok != m.ok {
			t.Errorf("the call %d: %d, %v", i, n, ok)
		}
		if count.Of(g, r) != m.n || count.See(g, r) != m.n || g.SeeWord(r-1, 3) != uint32(m.n) {
			t.Errorf("behind the call %d: %d, %d, the word 3: %d", i, count.Of(g, r), count.See(g, r), g.SeeWord(r-1, 3))
		}
	}
}

// P12.1: a new object's count is 0, whatever stood in its blocks ahead; so is it of the next object in the same block.
func TestNew(t *testing.T) {
	for _, c := range confs {
		k := open(t, c)
		l := k.some(t)
		k.check(t, "new")
		for _, r := range l {
			k.down(t, r)
			k.check(t, "nothing is below 0")
			k.set(t, r, most)
		}
		k.check(t, "set")
		r := l[0]
		if !obj.End(k.g, r) || k.make(t, 1, 1) != r {
			t.Fatalf("%v: another block is taken", c)
		}
		k.check(t, "made again")
	}
}

// P12.1, P12.2: each count that a word can hold, at its edges: one more, one less, and neither where it would go round.
func TestEdges(t *testing.T) {
	for _, c := range confs {
		k := open(t, c)
		l := k.some(t)
		for i, r := range l {
			k.fill(t, r, i+1)
		}
		for _, n := range edges {
			for _, r := range l {
				k.set(t, r, n)
				k.check(t, "set")
				k.up(t, r)
				k.check(t, "one more")
				k.set(t, r, n)
				k.down(t, r)
				k.check(t, "one less")
			}
		}
	}
}

// P12.1: at either bound a call is refused again and again, and the way back is open.
func TestBounds(t *testing.T) {
	k := open(t, some)
	r := k.make(t, 2, 20)
	for range 3 {
		k.down(t, r)
		k.check(t, "no less than 0")
	}
	k.up(t, r)
	k.check(t, "up from 0")
	k.set(t, r, most-1)
	k.up(t, r)
	for range 3 {
		k.up(t, r)
		k.check(t, "no more than a word holds")
	}
	k.down(t, r)
	k.down(t, r)
	k.check(t, "down from the greatest one")
}

// P12.1: who sets the word 3 of the head sets the count; the same word of a leaf, and the other words of the head, tell nothing of it.
func TestWordIsCount(t *testing.T) {
	for _, c := range confs[1:] {
		k := open(t, c)
		r := k.make(t, c.W, c.W)
		leaf := int(k.g.SeeWord(r-1, 8)) - 1
		for i, n := range edges {
			k.fill(t, r, i)
			k.g.SetWord(leaf, 3, uint32(most-n))
			k.words = k.g.Words()
			k.set(t, r, n)
			k.check(t, "set by its word")
		}
		k.g.SetWord(r-1, 3, 77)
		if k.of(t, r) != 77 || k.see(t, r) != 77 {
			t.Errorf("%v: the word 3 is 77, Of: %d, See: %d", c, k.of(t, r), k.see(t, r))
		}
	}
}

// P12.1: what is no object's reference: that of a leaf, of a clean block, of one that was taken alone, of one that was ended, of none. Their words 3 are not 0, and nothing is done.
func TestNone(t *testing.T) {
	for _, c := range confs[1:] {
		k := open(t, c)
		alone, _ := pool.Take(k.g)
		k.g.SetWord(alone, 3, 5)
		many, one := k.make(t, 3, 2*c.W), k.make(t, 1, 1)
		ended := k.make(t, 2, 2)
		for i, r := range []int{many, one, ended} {
			k.fill(t, r, i+3)
			k.set(t, r, 7*i+4)
		}
		obj.End(k.g, ended)
		delete(k.counts, ended)
		k.words = k.g.Words()
		leaf := int(k.g.SeeWord(many-1, 8))
		if k.g.SeeWord(leaf-1, 0)&3 != api.Leaf || k.g.SeeWord(leaf-1, 3) == 0 || k.g.SeeWord(ended-1, 3) == 0 || k.g.SeeWord(c.N-1, 3) == 0 {
			t.Fatalf("%v: there is nothing to be told wrongly", c)
		}
		for r := -2; r <= c.N+3; r++ {
			if _, ok := k.counts[r]; !ok {
				k.isNone(t, r)
			}
		}
		for _, r := range far {
			k.isNone(t, r)
		}
		k.check(t, "none was counted")
	}
}

// P12.1: a leaf and a clean block are none's heads also with other bits in their first words.
func TestNoneByKind(t *testing.T) {
	k := open(t, some)
	for pool.Len(k.g) > some.N-10 {
		pool.Take(k.g)
	}
	for kind := range uint32(4) {
		for _, other := range []uint32{0, 1 << 2, 31 << 2, 1 << 7, 3 << 8, math.MaxUint32 &^ 3} {
			k.g.SetWord(9, 0, kind|other)
			k.g.SetWord(9, 1, 2)
			k.g.SetWord(9, 2, 3)
			k.words = k.g.Words()
			delete(k.counts, 10)
			if kind == api.Small || kind == api.Spine {
				k.set(t, 10, 41)
			}
			if _, ok := k.counts[10]; !ok {
				k.isNone(t, 10)
			}
			k.up(t, 10)
			k.check(t, "by its kind")
		}
	}
}

// P12.1: an object's leaves may be shed, its count stays; and it is counted on.
func TestShed(t *testing.T) {
	k := open(t, some)
	r := k.make(t, 20, 30)
	k.fill(t, r, 6)
	k.set(t, r, 9)
	for leaf := range obj.Blocks(k.g, r) - 1 {
		if !obj.Shed(k.g, r, leaf) {
			t.Fatal("Shed of", leaf)
		}
		k.words = k.g.Words()
		k.check(t, "shed")
		k.up(t, r)
		k.check(t, "counted up")
		k.down(t, r)
		k.down(t, r)
		k.check(t, "counted down")
	}
}

// P12.1: of a nil ground there are no objects.
func TestNilGround(t *testing.T) {
	for _, r := range append([]int{-1, 0, 1, 2}, far...) {
		if count.Of(nil, r) != 0 || count.See(nil, r) != 0 {
			t.Errorf("%d: Of %d, See %d", r, count.Of(nil, r), count.See(nil, r))
		}
		if n, ok := count.Up(nil, r); n != 0 || ok {
			t.Errorf("Up of %d: %d, %v", r, n, ok)
		}
		if n, ok := count.Down(nil, r); n != 0 || ok {
			t.Errorf("Down of %d: %d, %v", r, n, ok)
		}
	}
}

// P12.1: a new ground, and one whose pool was opened, have no objects.
func TestNoObjects(t *testing.T) {
	for _, c := range confs {
		g, err := ground.New(c)
		if err != api.OK {
			t.Fatal(err)
		}
		for _, k := range []*kept{{g: g, c: c, words: g.Words()}, open(t, c)} {
			for r := range c.N + 2 {
				k.isNone(t, r)
			}
			k.check(t, "no objects")
		}
	}
}

// P12.2: so many Ups, then fewer Downs: the count is how many more Ups there were; all fields, and all others' counts, stay.
func TestUpsAndDowns(t *testing.T) {
	for _, c := range confs {
		k := open(t, c)
		l := k.some(t)
		for i, r := range l {
			k.fill(t, r, 5*i+2)
		}
		for i, r := range l {
			ups := 40 + 13*i
			for range ups {
				k.up(t, r)
			}
			k.check(t, "counted up")
			for range ups - 7*i - 1 {
				k.down(t, r)
			}
			k.check(t, "counted down")
			if n := k.of(t, r); n != 7*i+1 {
				t.Errorf("%v: %d more Ups than Downs: %d", c, 7*i+1, n)
			}
		}
	}
}

// P12.1, P12.2: counts held against plain ones, over calls of all kinds and at any reference: all words are as they have to be behind each.
func TestAnyCalls(t *testing.T) {
	for _, c := range []api.Conf{{N: 1, W: 16, R: 1, K: 1}, {N: 4, W: 16, R: 2, K: 1}, {N: 14, W: 17, R: 3, K: 1}, some} {
		k, seed := open(t, c), uint32(c.N)
		next := func(bound int) int {
			seed = seed*1664525 + 1013904223
			return int(seed>>8) % bound
		}
		for range 4000 {
			k.anyCall(t, next)
			k.check(t, "any call")
		}
	}
}

// anyCall does some call, at some reference.
func (k *kept) anyCall(t *testing.T, next func(int) int) {
	t.Helper()
	r := next(k.c.N+3) - 1
	_, isObject := k.counts[r]
	switch next(8) {
	case 0:
		if pool.Len(k.g) > 1 {
			k.fill(t, k.make(t, next(k.c.W-8), next(9)), next(1000))
		}
	case 1:
		if isObject && next(4) == 0 {
			obj.End(k.g, r)
			delete(k.counts, r)
			k.words = k.g.Words()
		}
	case 2:
		if isObject {
			k.set(t, r, edges[next(len(edges))])
		}
	case 3, 4:
		k.down(t, r)
	default:
		k.up(t, r)
	}
}

// P12.1, P12.2: as many blocks as there may be, and the greatest object: no call gets longer by it.
func TestGreatest(t *testing.T) {
	for _, c := range []api.Conf{{N: 262144, W: 16, R: 4096, K: 1}, {N: 16384, W: 256, R: 1, K: 65536}} {
		k := open(t, c)
		k.make(t, 0, (c.W-8)*(c.W-1))
		for pool.Len(k.g) > 1 {
			pool.Take(k.g)
		}
		if r := k.make(t, 1, 1); r != c.N {
			t.Fatalf("%v: the last object: %d", c, r)
		}
		for _, r := range []int{1, c.N} {
			k.up(t, r)
			k.up(t, r)
			k.down(t, r)
			k.check(t, "counted")
			k.set(t, r, most)
			k.up(t, r)
			k.check(t, "as much as may be")
		}
		k.isNone(t, c.N+1)
		k.check(t, "and none")
	}
}

// P12.1, and the document's P8: how many accesses there are hangs on no word of an object, and on no place of it.
func TestAccesses(t *testing.T) {
	var want []uint64
	for seed := range 6 {
		k := open(t, some)
		for range seed {
			k.make(t, seed, 3)
		}
		r := k.make(t, 3, 20)
		k.fill(t, r, seed*7)
		k.set(t, r, 1+seed*1000)
		var got []uint64
		for _, call := range []func(){func() { k.of(t, r) }, func() { k.up(t, r) }, func() { k.down(t, r) }} {
			ahead := k.g.Meter()
			call()
			got = append(got, k.g.Meter()-ahead)
		}
		if want == nil {
			want = got
		}
		if !slices.Equal(got, want) {
			t.Errorf("accesses %v, and %v", got, want)
		}
	}
}

// P12.1, P12.2: all that is known of counts are the ground's words: on another ground with the same ones all goes on, access by access.
func TestWordsAreAll(t *testing.T) {
	k := open(t, some)
	l := k.some(t)
	for i, r := range l {
		k.set(t, r, 3*i)
	}
	twin := open(t, some)
	if !twin.g.Load(k.g.Words()) {
		t.Fatal("Load")
	}
	twin.words = twin.g.Words()
	for r, n := range k.counts {
		twin.counts[r] = n
	}
	var rises [2]uint64
	for i, goesOn := range []*kept{k, twin} {
		ahead := goesOn.g.Meter()
		for j, r := range l {
			goesOn.up(t, r)
			for range j {
				goesOn.down(t, r)
			}
		}
		goesOn.check(t, "gone on")
		rises[i] = goesOn.g.Meter() - ahead
	}
	if rises[0] != rises[1] {
		t.Errorf("%d accesses, and %d", rises[0], rises[1])
	}
}

// P12.1: where words were set otherwise nothing is promised but that each call ends, and is not long.
func TestSetOtherwise(t *testing.T) {
	values := []uint32{0, 1, 2, 3, 40, 41, 1 << 20, 1 << 31, math.MaxUint32 - 1, math.MaxUint32}
	k := open(t, some)
	for _, name := range values {
		for _, n := range values {
			for kind := range uint32(4) {
				l := k.g.Words()
				for i := range l {
					l[i] = name
				}
				for b := range some.N {
					at := k.at(b+1) - 3
					l[at], l[at+1], l[at+2] = kind|name<<8, n, name
				}
				if !k.g.Load(l) {
					t.Fatal("Load")
				}
				for _, r := range []int{1, 2, 40, 41} {
					k.of(t, r)
					k.see(t, r)
					k.metered(t, "Up", 8, func() { count.Up(k.g, r) })
					k.metered(t, "Down", 8, func() { count.Down(k.g, r) })
				}
			}
		}
	}
}
