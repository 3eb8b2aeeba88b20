package obj_test

import (
	"math"
	"slices"
	"testing"

	"quitrent/api"
	"quitrent/ground"
	"quitrent/obj"
	"quitrent/pool"
)

// some is a configuration with room for some objects, of all numbers of blocks; no two of its numbers are one.
var some = api.Conf{N: 40, W: 18, R: 5, K: 2}

// confs are configurations of the least width, of the greatest and of some between, each with blocks enough for the greatest object.
var confs = []api.Conf{{N: 9, W: 16, R: 1, K: 1}, some, {N: 60, W: 33, R: 3, K: 7}, {N: 260, W: 256, R: 7, K: 65536}}

// far are numbers that are far from all that there is; some would be one, if they went round or were cut to fewer bits.
var far = []int{math.MinInt, math.MinInt + 1, math.MinInt + 2, -1 << 62, -1 << 32, math.MinInt32, -1000, 1 << 20, 1<<20 + 1, math.MaxInt32, 1 << 32, 1<<32 + 1, 1<<32 + 2, 1 << 50, 1 << 60, 1 << 62, math.MaxInt - 1, math.MaxInt}

// size is how many pointer fields an object has, and how many words.
type size struct{ nptr, ndata int }

// sizes answers sizes around those at which an object of that width has a block more, with fields of both kinds and of one alone.
func sizes(w int) []size {
	var l []size
	for _, n := range counts(w) {
		for i, nptr := range []int{0, n, n / 2, 1, w - 1, w, n - 1} {
			// Of the greatest ones a few are enough: they take long.
			if n > 1<<15 && i > 2 {
				break
			}
			if nptr >= 0 && nptr <= n {
				l = append(l, size{nptr, n - nptr})
			}
		}
	}
	return l
}

// counts answers numbers of fields: of a head, of a head and a leaf, of a head and many.
func counts(w int) []int {
	head, leaf, most := w-8, w-1, mostOf(w)
	return []int{0, 1, head - 1, head, head + 1, leaf - 1, leaf, leaf + 1, 2 * leaf, 2*leaf + 1, most - leaf, most - leaf + 1, most - 1, most}
}

// mostOf answers how many fields an object has at most.
func mostOf(w int) int {
	return (w - 8) * (w - 1)
}

// thing is what an object has to be: where each field lies, and as what it was set, and which leaves were shed.
type thing struct {
	size
	ref    int
	leaves []int
	shed   []bool
	spots  []spot
	fields []uint32
}

// kept is a ground, and beside it what has to stand in it: the pool as a plain list, and all other words.
type kept struct {
	g      *ground.Ground
	c      api.Conf
	pool   []int
	others []uint32
}

// open answers a ground with an opened pool. All its words that are neither the pool's nor tags are some that are not 0.
func open(t *testing.T, c api.Conf) *kept {
	t.Helper()
	g, err := ground.New(c)
	if err != api.OK || !pool.Open(g) {
		t.Fatalf("%v: %d", c, err)
	}
	k := &kept{g: g, c: c, others: g.Words()}
	for b := range c.N {
		k.pool = append(k.pool, b)
	}
	for i := range k.others {
		if i < k.at(0, 0) || (i-k.at(0, 0))%c.W != 0 {
			k.others[i] = uint32(i)*2654435761 | 1
		}
	}
	k.load(t)
	return k
}

// load makes the ground's words those that have to stand there.
func (k *kept) load(t *testing.T) {
	t.Helper()
	if !k.g.Load(k.words()) {
		t.Fatalf("%v: Load", k.c)
	}
}

// leave takes blocks out of the pool till so many are left there; they are some others' leaves then.
func (k *kept) leave(t *testing.T, n int) {
	t.Helper()
	for len(k.pool) > n {
		b, _ := pool.Take(k.g)
		clear(k.others[k.at(b, 0):k.at(b, k.c.W)])
		k.pool = k.pool[1:]
		k.set(b, 0, api.Leaf)
	}
	k.check(t, "so many are left")
}

// at is where in the store a word of a block is.
func (k *kept) at(b, w int) int {
	return 24 + k.c.R + b*k.c.W + w
}

// set makes v a word of a block that isn't in the pool.
func (k *kept) set(b, w int, v uint32) {
	k.g.SetWord(b, w, v)
	k.others[k.at(b, w)] = v
}

// words answers all words, with the pool laid down as its chapter says.
func (k *kept) words() []uint32 {
	l := slices.Clone(k.others)
	clear(l[:3])
	for i, b := range k.pool {
		l[k.at(b, 0)], l[k.at(b, 5)] = 0, 0
		if i == 0 {
			l[0] = uint32(b + 1)
		} else {
			l[k.at(k.pool[i-1], 5)] = uint32(b + 1)
		}
		l[1] = uint32(b + 1)
	}
	l[2] = uint32(len(k.pool))
	return l
}

// check tells where the words are others than they should be.
func (k *kept) check(t *testing.T, name string) {
	t.Helper()
	got, want := k.g.Words(), k.words()
	if slices.Equal(got, want) {
		return
	}
	for i := range got {
		if got[i] != want[i] {
			t.Fatalf("%v, %s: the word %d of the store is %d, not %d", k.c, name, i, got[i], want[i])
		}
	}
}

// metered does a call, and tells where it makes more accesses than it may.
func (k *kept) metered(t *testing.T, name string, most int, call func()) {
	t.Helper()
	ahead := k.g.Meter()
	call()
	if n := k.g.Meter() - ahead; n > uint64(most) {
		t.Errorf("%v, %s: %d accesses, more than %d", k.c, name, n, most)
	}
}

// make makes an object, and tells where its reference or its error isn't what it has to be; nil, if there was no room.
func (k *kept) make(t *testing.T, s size) *thing {
	t.Helper()
	spots := laid(k.c.W, s.nptr+s.ndata)
	blocks := blocksOf(spots)
	r, err := obj.Make(k.g, s.nptr, s.ndata)
	if len(k.pool) < blocks {
		if r != 0 || err != api.ErrFull {
			t.Fatalf("%v: Make of %v, of %d blocks, where %d are clean: %d, %d", k.c, s, blocks, len(k.pool), r, err)
		}
		return nil
	}
	head := k.pool[0]
	if r != head+1 || err != api.OK {
		t.Fatalf("%v: Make of %v: %d, %d, not %d", k.c, s, r, err, head+1)
	}
	o := &thing{size: s, ref: r, leaves: slices.Clone(k.pool[1:blocks]), shed: make([]bool, blocks-1), spots: spots, fields: make([]uint32, s.nptr+s.ndata)}
	k.lay(o)
	k.pool = k.pool[blocks:]
	return o
}

// lay puts the words of a new object where they have to be.
func (k *kept) lay(o *thing) {
	head := o.ref - 1
	kind := uint32(api.Small)
	if len(o.leaves) > 0 {
		kind = api.Spine
	}
	clear(k.others[k.at(head, 0):k.at(head, k.c.W)])
	k.others[k.at(head, 0)] = kind
	k.others[k.at(head, 1)] = uint32(o.nptr)
	k.others[k.at(head, 2)] = uint32(o.ndata)
	for j, b := range o.leaves {
		clear(k.others[k.at(b, 0):k.at(b, k.c.W)])
		k.others[k.at(b, 0)] = uint32(api.Leaf + head*256)
		k.others[k.at(head, 8+j)] = uint32(b + 1)
	}
}

// mark makes the words 3 to 7 of an object's head, and the marks of its tag, some that are not 0.
func (k *kept) mark(o *thing, seed int) {
	head := o.ref - 1
	for w := 3; w < 8; w++ {
		k.set(head, w, uint32(seed*31+w)*2246822519|1)
	}
	k.set(head, 0, k.g.SeeWord(head, 0)&3|uint32(seed%31+1)<<2)
}

// spot is where a field lies: a leaf, or -1 for the head, and a word of it.
type spot struct{ leaf, at int }

// laid answers where so many fields lie, put down one behind the other.
func laid(w, fields int) []spot {
	var l []spot
	if fields <= w-8 {
		for i := range fields {
			l = append(l, spot{-1, 8 + i})
		}
		return l
	}
	next := spot{0, 1}
	for range fields {
		l = append(l, next)
		next.at++
		if next.at == w {
			next = spot{next.leaf + 1, 1}
		}
	}
	return l
}

// blocksOf answers of how many blocks an object is whose fields lie there.
func blocksOf(l []spot) int {
	if len(l) == 0 {
		return 1
	}
	// The leaves from 0 on, and the head.
	return l[len(l)-1].leaf + 2
}

// isShed tells whether the leaf was shed in which a field lies.
func (o *thing) isShed(s spot) bool {
	return s.leaf >= 0 && o.shed[s.leaf]
}

// put sets a field, and tells where that isn't right.
func (k *kept) put(t *testing.T, o *thing, i int, v uint32) {
	t.Helper()
	s := o.spots[i]
	var err api.Errno
	k.metered(t, "setting a field", 12, func() {
		if i < o.nptr {
			err = obj.SetPtr(k.g, o.ref, i, int(v))
		} else {
			err = obj.SetData(k.g, o.ref, i-o.nptr, v)
		}
	})
	if o.isShed(s) {
		if err != api.ErrIndex {
			t.Fatalf("%v: the field %d of %v, whose leaf was shed: set: %d", k.c, i, o.size, err)
		}
		return
	}
	if err != api.OK {
		t.Fatalf("%v: the field %d of %v: set: %d", k.c, i, o.size, err)
	}
	o.fields[i] = v
	b := o.ref - 1
	if s.leaf >= 0 {
		b = o.leaves[s.leaf]
	}
	k.others[k.at(b, s.at)] = v
}

// fill sets all fields of an object, no two of them alike as far as references go.
func (k *kept) fill(t *testing.T, o *thing, seed int) {
	t.Helper()
	for i := range o.fields {
		if i < o.nptr {
			k.put(t, o, i, uint32((seed+i)%(k.c.N+1)))
		} else {
			k.put(t, o, i, uint32(seed+i)*2654435761|1)
		}
	}
}

// get answers a field, and tells where that is too long.
func (k *kept) get(t *testing.T, o *thing, i int) (v uint32, err api.Errno) {
	t.Helper()
	k.metered(t, "getting a field", 12, func() {
		if i < o.nptr {
			var x int
			x, err = obj.Ptr(k.g, o.ref, i)
			v = uint32(x)
		} else {
			v, err = obj.Data(k.g, o.ref, i-o.nptr)
		}
	})
	return v, err
}

// agrees tells where what is asked of an object isn't as it has to be.
func (k *kept) agrees(t *testing.T, o *thing) {
	t.Helper()
	for i, s := range o.spots {
		want, wantErr := o.fields[i], api.OK
		if o.isShed(s) {
			want, wantErr = 0, api.ErrIndex
		}
		if v, err := k.get(t, o, i); v != want || err != wantErr {
			t.Fatalf("%v: the field %d of %v: %d, %d, not %d, %d", k.c, i, o.size, v, err, want, wantErr)
		}
	}
	var nptr, ndata, blocks int
	var err api.Errno
	var is bool
	k.metered(t, "Lens", 12, func() { nptr, ndata, err = obj.Lens(k.g, o.ref) })
	k.metered(t, "Blocks", 12, func() { blocks = obj.Blocks(k.g, o.ref) })
	k.metered(t, "Is", 12, func() { is = obj.Is(k.g, o.ref) })
	if nptr != o.nptr || ndata != o.ndata || err != api.OK || blocks != blocksOf(o.spots) || !is {
		t.Fatalf("%v: %v: Lens %d, %d, %d, Blocks %d, Is %v", k.c, o.size, nptr, ndata, err, blocks, is)
	}
	k.isSeen(t, o)
}

// isSeen tells where See answers another object, or makes an access.
func (k *kept) isSeen(t *testing.T, o *thing) {
	t.Helper()
	var want api.Object
	for i, s := range o.spots {
		v := o.fields[i]
		if o.isShed(s) {
			v = 0
		}
		if i < o.nptr {
			want.Ptrs = append(want.Ptrs, int(v))
		} else {
			want.Data = append(want.Data, v)
		}
	}
	var got api.Object
	var ok bool
	k.metered(t, "See", 0, func() { got, ok = obj.See(k.g, o.ref) })
	if !ok || !slices.Equal(got.Ptrs, want.Ptrs) || !slices.Equal(got.Data, want.Data) {
		t.Fatalf("%v: See of %v: %v, %v, not %v", k.c, o.size, got, ok, want)
	}
}

// shed sheds a leaf, and tells where that isn't right.
func (k *kept) shed(t *testing.T, o *thing, leaf int) {
	t.Helper()
	want := leaf >= 0 && leaf < len(o.leaves) && !o.shed[leaf]
	if got := obj.Shed(k.g, o.ref, leaf); got != want {
		t.Fatalf("%v: Shed of the leaf %d of %v: %v", k.c, leaf, o.size, got)
	}
	if want {
		o.shed[leaf] = true
		k.others[k.at(o.ref-1, 8+leaf)] = 0
		k.pool = slices.Concat([]int{o.leaves[leaf]}, k.pool)
	}
}

// end ends an object, and tells where that isn't right.
func (k *kept) end(t *testing.T, o *thing) {
	t.Helper()
	if !obj.End(k.g, o.ref) {
		t.Fatalf("%v: End of %v: false", k.c, o.size)
	}
	k.pool = slices.Concat([]int{o.ref - 1}, k.pool)
}

// isNone tells where any call takes r for an object's reference, or anything is changed by that.
func (k *kept) isNone(t *testing.T, r int) {
	t.Helper()
	for _, i := range []int{0, 1, -1, math.MaxInt} {
		k.metered(t, "asking for none", 12*6, func() { refuses(t, k.g, r, i) })
		if obj.Shed(k.g, r, i) {
			t.Errorf("%v: Shed of %d: true", k.c, r)
		}
	}
	if n := obj.Blocks(k.g, r); n != 0 {
		t.Errorf("%v: Blocks of %d: %d", k.c, r, n)
	}
	if obj.End(k.g, r) {
		t.Errorf("%v: End of %d: true", k.c, r)
	}
	if o, ok := obj.See(k.g, r); ok || len(o.Ptrs) != 0 || len(o.Data) != 0 {
		t.Errorf("%v: See of %d: %v, %v", k.c, r, o, ok)
	}
	k.check(t, "none was asked for")
}

// refuses tells where r is taken for an object's reference by a call that tells of one or of its field i.
func refuses(t *testing.T, g *ground.Ground, r, i int) {
	t.Helper()
	if obj.Is(g, r) {
		t.Errorf("Is of %d: true", r)
	}
	if nptr, ndata, err := obj.Lens(g, r); nptr != 0 || ndata != 0 || err != api.ErrRef {
		t.Errorf("Lens of %d: %d, %d, %d", r, nptr, ndata, err)
	}
	if x, err := obj.Ptr(g, r, i); x != 0 || err != api.ErrRef {
		t.Errorf("Ptr of %d, %d: %d, %d", r, i, x, err)
	}
	if v, err := obj.Data(g, r, i); v != 0 || err != api.ErrRef {
		t.Errorf("Data of %d, %d: %d, %d", r, i, v, err)
	}
	for _, x := range []int{0, 1, -1, math.MaxInt} {
		if err := obj.SetPtr(g, r, i, x); err != api.ErrRef {
			t.Errorf("SetPtr of %d, %d, %d: %d", r, i, x, err)
		}
	}
	if err := obj.SetData(g, r, i, 7); err != api.ErrRef {
		t.Errorf("SetData of %d, %d: %d", r, i, err)
	}
}
