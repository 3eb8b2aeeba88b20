package link_test

import (
	"math"
	"slices"
	"testing"

	"quitrent/api"
	"quitrent/count"
	"quitrent/grave"
	"quitrent/ground"
	"quitrent/link"
	"quitrent/obj"
	"quitrent/pool"
	"quitrent/ring"
	"quitrent/shape"
)

// small is a configuration whose words are soon compared; some has room for more objects. No two of a configuration's numbers are one.
var (
	small = api.Conf{N: 9, W: 16, R: 3, K: 2}
	some  = api.Conf{N: 40, W: 18, R: 5, K: 2}
)

// confs are configurations with one block, with the least width, with the greatest and with some between.
var confs = []api.Conf{{N: 1, W: 16, R: 1, K: 3}, small, some, {N: 300, W: 256, R: 7, K: 65536}}

// most is the greatest number that a word can hold.
const most = math.MaxUint32

// The bits of the marks in a tag's word.
const (
	color = 2 + iota
	counted
	shade
	dead
	inRing
)

// far are numbers that are far from all that there is; some would be right, if they went round or were cut to fewer bits.
var far = []int{math.MinInt, math.MinInt + 1, math.MinInt + 2, -1 << 62, -1 << 32, -1<<32 + 1, math.MinInt32, -1000, -1, 1 << 20, 1<<20 + 1, math.MaxInt32, most, 1 << 32, 1<<32 + 1, 1<<32 + 2, 1 << 50, 1 << 60, 1 << 62, math.MaxInt - 1, math.MaxInt}

// kept is a ground with an opened pool, and beside it what has to stand in it: all words, the rows of blocks as plain lists, and how many holds there are of each object.
type kept struct {
	g                 *ground.Ground
	c                 api.Conf
	words             []uint32
	pool, grave, ring []int
	holds             map[int]int
}

// open answers a ground with an opened pool. Its blocks' words are some that are not 0, but for tags and the pool's links; so are its root slots, and the registers from 17 on.
func open(t *testing.T, c api.Conf) *kept {
	t.Helper()
	g, err := ground.New(c)
	if err != api.OK || !pool.Open(g) {
		t.Fatalf("%v: %d", c, err)
	}
	k := &kept{g: g, c: c, holds: map[int]int{}}
	for b := range c.N {
		for w := range c.W {
			if w != 0 && w != 5 {
				g.SetWord(b, w, uint32(b*c.W+w)*2654435761|1)
			}
		}
	}
	for i := range c.R {
		g.SetRoot(i, 70+i)
	}
	for r := 17; r < 24; r++ {
		g.SetReg(r, 500+r)
	}
	k.read()
	return k
}

// read says that what stands there now is what has to.
func (k *kept) read() {
	k.words, k.pool, k.ring = k.g.Words(), pool.List(k.g), ring.List(k.g)
	k.grave = nil
	for _, r := range grave.List(k.g) {
		k.grave = append(k.grave, r-1)
	}
}

// set makes v a word of an object's head.
func (k *kept) set(r, w, v int) {
	k.g.SetWord(r-1, w, uint32(v))
	k.words[k.at(r-1, w)] = uint32(v)
}

// setReg makes v a register.
func (k *kept) setReg(r, v int) {
	k.g.SetReg(r, v)
	k.words[r] = uint32(v)
}

// setMark makes v a mark of an object's tag.
func (k *kept) setMark(r, bit, v int) {
	k.set(r, 0, k.word(r-1, 0)&^(1<<bit)|v<<bit)
}

// setField lets the field i of r hold x, without a name more or less.
func (k *kept) setField(r, i, x int) {
	at, _ := k.field(r, i)
	k.g.Put(at, uint32(x))
	k.words[at] = uint32(x)
}

// stand lets objects stand in the ring, in that order.
func (k *kept) stand(t *testing.T, refs ...int) {
	t.Helper()
	for _, r := range refs {
		if !ring.Add(k.g, r-1) {
			t.Fatalf("%v: %d doesn't come into the ring", k.c, r)
		}
	}
	k.read()
}

// some has objects born of one block, of a head and one leaf, of a head and many, with and without fields of either kind, as far as there is room, and answers their references.
func (k *kept) some(t *testing.T) []int {
	t.Helper()
	var l []int
	for _, n := range [][2]int{{0, 0}, {3, 2}, {k.c.W - 8, 0}, {0, 3}, {k.c.W - 8, 1}, {0, 2 * k.c.W}, {1, 1}, {2 * k.c.W, 5}, {3 * (k.c.W - 1), 0}} {
		if blocks, err := shape.Blocks(k.c.W, n[0], n[1]); err == api.OK && blocks <= len(k.pool) {
			l = append(l, k.born(t, n[0], n[1]))
		}
	}
	return l
}

// at is where in the store a word of a block has to be.
func (k *kept) at(b, w int) int {
	return 24 + k.c.R + b*k.c.W + w
}

// word is what a word of a block has to be.
func (k *kept) word(b, w int) int {
	return int(k.words[k.at(b, w)])
}

// is tells whether r has to be an object's reference.
func (k *kept) is(r int) bool {
	return r >= 1 && r <= k.c.N && (k.word(r-1, 0)&3 == api.Small || k.word(r-1, 0)&3 == api.Spine)
}

// alive tells whether r has to be the reference of an object that isn't dead.
func (k *kept) alive(r int) bool {
	return k.is(r) && k.mark(r, dead) == 0
}

// mark is what a mark of an object has to be.
func (k *kept) mark(r, bit int) int {
	return k.word(r-1, 0) >> bit & 1
}

// count is what an object's count has to be, 0 of what is none.
func (k *kept) count(r int) int {
	if !k.is(r) {
		return 0
	}
	return k.word(r-1, 3)
}

// leaves is how many leaves an object was made with.
func (k *kept) leaves(r int) int {
	return leavesFor(k.c.W, k.word(r-1, 1)+k.word(r-1, 2))
}

// leavesFor is how many leaves an object of so many fields has.
func leavesFor(w, fields int) int {
	if fields <= w-8 {
		return 0
	}
	return (fields + w - 2) / (w - 1)
}

// field is where in the store a field of an object has to be, and whether its leaf wasn't shed.
func (k *kept) field(r, i int) (int, bool) {
	if k.leaves(r) == 0 {
		return k.at(r-1, 8+i), true
	}
	leaf := k.word(r-1, 8+i/(k.c.W-1))
	return k.at(leaf-1, 1+i%(k.c.W-1)), leaf != 0
}

// get is what a pointer field of an object has to hold, and its error.
func (k *kept) get(r, i int) (int, api.Errno) {
	if !k.is(r) {
		return 0, api.ErrRef
	}
	if i < 0 || i >= k.word(r-1, 1) {
		return 0, api.ErrIndex
	}
	at, ok := k.field(r, i)
	if !ok {
		return 0, api.ErrIndex
	}
	return int(k.words[at]), api.OK
}

// link says that a row of blocks has to stand in three registers from first on, and by that word of each.
func (k *kept) link(first, word int, l []int) {
	k.words[first], k.words[first+1], k.words[first+2] = 0, 0, uint32(len(l))
	for i, b := range l {
		next := 0
		if i+1 < len(l) {
			next = l[i+1] + 1
		}
		k.words[k.at(b, word)] = uint32(next)
		k.words[first+1] = uint32(b + 1)
	}
	if len(l) > 0 {
		k.words[first] = uint32(l[0] + 1)
	}
}

// linkRing says that the ring's blocks have to stand there, by both words of each.
func (k *kept) linkRing() {
	k.link(7, 7, k.ring)
	ahead := 0
	for _, b := range k.ring {
		k.words[k.at(b, 6)] = uint32(ahead)
		ahead = b + 1
	}
}

// dye says that an object has to be made of the first clean blocks, with marks of this epoch and one hold.
func (k *kept) dye(leaves, nptr, ndata int) int {
	l := slices.Clone(k.pool[:leaves+1])
	k.pool = k.pool[leaves+1:]
	k.link(0, 5, k.pool)
	for _, b := range l {
		clear(k.words[k.at(b, 0):k.at(b+1, 0)])
	}
	head := l[0]
	kind, marks := uint32(api.Small), k.words[10]*(1<<color|1<<counted|1<<shade)
	for i, b := range l[1:] {
		kind = api.Spine
		k.words[k.at(head, 8+i)] = uint32(b + 1)
		k.words[k.at(b, 0)] = api.Leaf | uint32(head)<<8
	}
	for i, v := range []uint32{kind | marks, uint32(nptr), uint32(ndata), 1} {
		k.words[k.at(head, i)] = v
	}
	return head + 1
}

// touch says that an object has to be touched.
func (k *kept) touch(r int) {
	parity := int(k.words[10])
	if k.words[11] == api.Idle || !k.alive(r) || k.mark(r, color) == parity {
		return
	}
	tag := &k.words[k.at(r-1, 0)]
	*tag = *tag&^(1<<color) | uint32(parity)<<color | 1<<inRing
	if !slices.Contains(k.ring, r-1) {
		k.ring = append(k.ring, r-1)
		k.linkRing()
	}
}

// more says that an object has to be named once more.
func (k *kept) more(r int) {
	k.words[k.at(r-1, 3)]++
	k.touch(r)
}

// less says that an object that is named has to be named once less.
func (k *kept) less(r int) {
	k.words[16] = 1
	k.words[k.at(r-1, 3)]--
	if k.count(r) == 0 {
		k.bury(r)
	}
}

// bury says that an object has to be buried, if it isn't dead.
func (k *kept) bury(r int) {
	if !k.alive(r) {
		return
	}
	if i := slices.Index(k.ring, r-1); i >= 0 {
		k.ring = slices.Delete(k.ring, i, i+1)
		k.linkRing()
	}
	if k.words[14] == uint32(r) {
		k.words[14] = 0
	}
	tag := &k.words[k.at(r-1, 0)]
	*tag = *tag&^(1<<inRing) | 1<<dead
	k.words[k.at(r-1, 6)], k.words[k.at(r-1, 7)] = uint32(k.word(r-1, 1)), uint32(k.leaves(r))
	k.grave = append(k.grave, r-1)
	k.link(3, 5, k.grave)
	k.words[6] += uint32(k.leaves(r) + 1)
}

// put says that a field has to hold x, and tells the error that there has to be instead.
func (k *kept) put(r, i, x int) api.Errno {
	if !k.alive(r) {
		return api.ErrRef
	}
	y, err := k.get(r, i)
	if err != api.OK {
		return err
	}
	if x != 0 && !k.alive(x) {
		return api.ErrArg
	}
	if x != 0 {
		k.more(x)
	}
	at, _ := k.field(r, i)
	k.words[at] = uint32(x)
	if k.count(y) > 0 {
		k.touch(y)
		k.less(y)
	}
	return api.OK
}

// check tells where the words are others than they should be, or Suspect tells what they don't say.
func (k *kept) check(t *testing.T, name string) {
	t.Helper()
	if got := k.g.Words(); !slices.Equal(got, k.words) {
		for i := range got {
			if got[i] != k.words[i] {
				t.Fatalf("%v, %s: the word %d of the store is %d, not %d", k.c, name, i, got[i], k.words[i])
			}
		}
	}
	k.metered(t, "Suspect", 64, func() {
		if got := link.Suspect(k.g); got != (k.words[16] == 1) {
			t.Fatalf("%v, %s: Suspect: %v", k.c, name, got)
		}
	})
}

// metered does a call, and tells where it makes more accesses than it may.
func (k *kept) metered(t *testing.T, name string, bound int, call func()) {
	t.Helper()
	ahead := k.g.Meter()
	call()
	if n := k.g.Meter() - ahead; n > uint64(bound) {
		t.Errorf("%v, %s: %d accesses, more than %d", k.c, name, n, bound)
	}
}

// bornOr has an object born, and tells where that, or the error, isn't as it has to be.
func (k *kept) bornOr(t *testing.T, nptr, ndata int) (int, api.Errno) {
	t.Helper()
	_, wantErr := shape.Blocks(k.c.W, nptr, ndata)
	want, leaves := 0, 0
	if wantErr == api.OK {
		leaves = leavesFor(k.c.W, nptr+ndata)
		if leaves >= len(k.pool) {
			wantErr = api.ErrFull
		} else {
			want = k.dye(leaves, nptr, ndata)
		}
	}
	var r int
	var err api.Errno
	k.metered(t, "Born", 128+2*k.c.W*(leaves+1), func() { r, err = link.Born(k.g, nptr, ndata) })
	if r != want || err != wantErr {
		t.Fatalf("%v: Born(%d, %d): %d, %d, not %d, %d", k.c, nptr, ndata, r, err, want, wantErr)
	}
	k.check(t, "Born")
	if err == api.OK {
		k.holds[r] = 1
	}
	return r, err
}

// born has an object born for which there is room. Its words are some that are not 0.
func (k *kept) born(t *testing.T, nptr, ndata int) int {
	t.Helper()
	r, err := k.bornOr(t, nptr, ndata)
	if err != api.OK {
		t.Fatalf("%v: Born(%d, %d): %d", k.c, nptr, ndata, err)
	}
	for i := range ndata {
		obj.SetData(k.g, r, i, uint32(r+i)*2246822519|1)
	}
	k.read()
	return r
}

// hold holds r, and tells where that isn't as it has to be.
func (k *kept) hold(t *testing.T, r int) bool {
	t.Helper()
	want := k.alive(r)
	if want {
		k.more(r)
		k.holds[r]++
	}
	k.did(t, "Hold", want, 64, func() bool { return link.Hold(k.g, r) })
	return want
}

// let lets r go, likewise.
func (k *kept) let(t *testing.T, r int) bool {
	t.Helper()
	want := k.alive(r) && k.count(r) > 0
	if want {
		k.less(r)
		k.holds[r]--
	}
	k.did(t, "Let", want, 96, func() bool { return link.Let(k.g, r) })
	return want
}

// did does a call that has to answer want and to make at most so many accesses, and checks all words behind it.
func (k *kept) did(t *testing.T, name string, want bool, bound int, call func() bool) {
	t.Helper()
	var ok bool
	k.metered(t, name, bound, func() { ok = call() })
	if ok != want {
		t.Fatalf("%v: %s: %v", k.c, name, ok)
	}
	k.check(t, name)
}

// got gets a field, and tells where that isn't as it has to be.
func (k *kept) got(t *testing.T, r, i int) (int, api.Errno) {
	t.Helper()
	want, wantErr := k.get(r, i)
	var x int
	var err api.Errno
	k.metered(t, "Get", 64, func() { x, err = link.Get(k.g, r, i) })
	if x != want || err != wantErr {
		t.Fatalf("%v: Get(%d, %d): %d, %d, not %d, %d", k.c, r, i, x, err, want, wantErr)
	}
	k.check(t, "Get")
	return x, err
}

// puts puts x into a field, likewise.
func (k *kept) puts(t *testing.T, r, i, x int) api.Errno {
	t.Helper()
	want := k.put(r, i, x)
	var err api.Errno
	k.metered(t, "Put", 192, func() { err = link.Put(k.g, r, i, x) })
	if err != want {
		t.Fatalf("%v: Put(%d, %d, %d): %d, not %d", k.c, r, i, x, err, want)
	}
	k.check(t, "Put")
	return err
}

// named tells where an object's count isn't how many holds of it there are and how often fields hold it, or one is buried that has either, or one isn't that has neither.
func (k *kept) named(t *testing.T) {
	t.Helper()
	names := map[int]int{}
	for r := 1; r <= k.c.N; r++ {
		o, _ := obj.See(k.g, r)
		for _, x := range o.Ptrs {
			names[x]++
		}
	}
	for r := 1; r <= k.c.N; r++ {
		if !k.is(r) {
			continue
		}
		if n := count.See(k.g, r); n != k.holds[r]+names[r] {
			t.Fatalf("%v: the count of %d is %d, but it has %d holds and %d fields name it", k.c, r, n, k.holds[r], names[r])
		}
		if isDead := k.mark(r, dead) == 1; isDead != (k.holds[r]+names[r] == 0) {
			t.Fatalf("%v: is %d dead: %v, with %d holds, and %d names", k.c, r, isDead, k.holds[r], names[r])
		}
	}
}
