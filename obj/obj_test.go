package obj_test

import (
	"math"
	"slices"
	"testing"

	"quitrent/api"
	"quitrent/ground"
	"quitrent/obj"
	"quitrent/pool"
)

// P11.1, P11.3: the chapter's example.
func TestExample(t *testing.T) {
	g, err := ground.New(api.Conf{N: 8, W: 16, R: 1, K: 1})
	if err != api.OK || !pool.Open(g) {
		t.Fatal(err)
	}
	for _, m := range []struct{ nptr, ndata, want int }{{2, 1, 1}, {0, 20, 2}, {0, 0, 5}} {
		if r, err := obj.Make(g, m.nptr, m.ndata); r != m.want || err != api.OK {
			t.Errorf("Make(%d, %d): %d, %d", m.nptr, m.ndata, r, err)
		}
	}
	if g.SeeWord(1, 0) != api.Spine || g.SeeWord(2, 0) != api.Leaf+256 || g.SeeWord(3, 0) != api.Leaf+256 {
		t.Error("the blocks 1, 2, 3:", g.SeeWord(1, 0), g.SeeWord(2, 0), g.SeeWord(3, 0))
	}
	if !obj.Shed(g, 2, 1) {
		t.Error("Shed(2, 1): false")
	}
	if l := pool.List(g); !slices.Equal(l, []int{3, 5, 6, 7}) {
		t.Error("clean:", l)
	}
}

// P11.1: objects of one block, of a head and one leaf, of a head and many, of no fields: each word of theirs is as it has to be, whatever stood in the blocks, and no other word is changed.
func TestMake(t *testing.T) {
	for _, c := range confs {
		for _, s := range sizes(c.W) {
			k := open(t, c)
			o := k.make(t, s)
			if o == nil {
				t.Fatalf("%v: no room for %v", c, s)
			}
			k.check(t, "made")
			k.agrees(t, o)
			k.check(t, "asked")
		}
	}
}

// P11.1: the head is the pool's first block, and the leaves are those behind it, in whichever order they stand there.
func TestMakeOrder(t *testing.T) {
	k := open(t, some)
	k.leave(t, 0)
	for _, b := range []int{3, 30, 7, 0, 39, 12} {
		pool.Give(k.g, b)
		k.pool = slices.Insert(k.pool, 0, b)
	}
	o := k.make(t, size{0, 3 * 17})
	if o == nil || o.ref != 13 || !slices.Equal(o.leaves, []int{39, 0, 7}) {
		t.Fatal("the blocks 12, 39, 0 and 7:", o)
	}
	k.check(t, "made")
	k.fill(t, o, 1)
	k.agrees(t, o)
	if o := k.make(t, size{}); o == nil || o.ref != 31 {
		t.Error("the block 30:", o)
	}
	k.check(t, "the next one")
}

// P11.1: sizes that no object has, of a pool with all blocks and of one with none; nothing is done.
func TestMakeErrSize(t *testing.T) {
	for _, c := range confs {
		most := mostOf(c.W)
		wrong := []size{{-1, 0}, {0, -1}, {-1, -1}, {-1, 1}, {1, -1}, {most + 1, 0}, {0, most + 1}, {most, 1}, {1, most}, {most/2 + 1, most - most/2}, {-1, most}, {most + 1, -1}, {math.MaxInt, math.MaxInt}, {math.MinInt, math.MinInt}, {math.MaxInt, math.MinInt}}
		for _, n := range far {
			wrong = append(wrong, size{n, 0}, size{0, n}, size{n, 1})
		}
		for _, k := range []*kept{open(t, c), open(t, c)} {
			for _, s := range wrong {
				if r, err := obj.Make(k.g, s.nptr, s.ndata); r != 0 || err != api.ErrSize {
					t.Errorf("%v: Make of %v: %d, %d", c, s, r, err)
				}
			}
			k.check(t, "sizes that no object has")
			k.leave(t, 0)
			for _, s := range wrong {
				if r, err := obj.Make(k.g, s.nptr, s.ndata); r != 0 || err != api.ErrSize {
					t.Errorf("%v: Make of %v, without room: %d, %d", c, s, r, err)
				}
			}
			k.check(t, "sizes that no object has, without room")
		}
	}
}

// P11.1: a pool with one block too few, with just enough and with one more.
func TestMakeErrFull(t *testing.T) {
	for _, c := range confs {
		for _, n := range counts(c.W) {
			blocks := blocksOf(laid(c.W, n))
			for _, have := range []int{0, blocks - 1, blocks, min(blocks+1, c.N)} {
				k := open(t, c)
				k.leave(t, have)
				if o := k.make(t, size{n / 3, n - n/3}); (o != nil) != (have >= blocks) {
					t.Fatalf("%v: %d blocks, of which %d are clean: %v", c, blocks, have, o)
				}
				k.check(t, "made, or not")
				if len(k.pool) != pool.Len(k.g) {
					t.Errorf("%v: %d are clean, not %d", c, pool.Len(k.g), len(k.pool))
				}
			}
		}
	}
}

// P11.1: a ground whose pool wasn't opened has no room; a size that no object has is told ahead of that.
func TestMakeUnopened(t *testing.T) {
	g, err := ground.New(some)
	if err != api.OK {
		t.Fatal(err)
	}
	if r, err := obj.Make(g, 0, 0); r != 0 || err != api.ErrFull {
		t.Errorf("Make: %d, %d", r, err)
	}
	if r, err := obj.Make(g, -1, 0); r != 0 || err != api.ErrSize {
		t.Errorf("Make of no size: %d, %d", r, err)
	}
}

// P11.2, P11.5: each field of each object is set and got, at its place, and no other word is changed; marks and the words 3 to 7 tell nothing of it.
func TestFields(t *testing.T) {
	for _, c := range confs {
		for i, s := range sizes(c.W) {
			k := open(t, c)
			o := k.make(t, s)
			k.mark(o, i)
			k.agrees(t, o)
			k.fill(t, o, i+1)
			k.agrees(t, o)
			k.check(t, "filled")
			k.fill(t, o, 3*i+5)
			k.agrees(t, o)
			k.check(t, "filled anew")
		}
	}
}

// P11.5: whenever one field is set, all others stay, of this object and of the others.
func TestOneField(t *testing.T) {
	k := open(t, some)
	var l []*thing
	for _, s := range []size{{5, 5}, {6, 11}, {30, 4}, {0, 18}, {3, 0}, {0, 0}, {40, 40}} {
		l = append(l, k.make(t, s))
	}
	for j, o := range l {
		k.fill(t, o, j)
	}
	for j, o := range l {
		for i := range o.fields {
			k.put(t, o, i, uint32(i+j)%41)
			k.check(t, "one field")
		}
	}
	for _, o := range l {
		k.agrees(t, o)
	}
}

// P11.2: the fields behind the last one and ahead of the first one, also where a field of the other kind lies there.
func TestErrIndex(t *testing.T) {
	for _, c := range confs {
		for _, s := range sizes(c.W) {
			k := open(t, c)
			o := k.make(t, s)
			k.fill(t, o, 9)
			k.checkIndexes(t, o)
			k.check(t, "no such fields")
		}
	}
}

// checkIndexes tells where a field that an object hasn't is told, or set.
func (k *kept) checkIndexes(t *testing.T, o *thing) {
	t.Helper()
	both := append([]int{-1, -2, -o.nptr, -o.nptr - 1, len(o.fields), len(o.fields) + 1, mostOf(k.c.W), mostOf(k.c.W) + 1}, far...)
	for _, i := range append(both, o.nptr, o.nptr+1) {
		if i >= 0 && i < o.nptr {
			continue
		}
		if x, err := obj.Ptr(k.g, o.ref, i); x != 0 || err != api.ErrIndex {
			t.Errorf("%v: Ptr of the field %d of %v: %d, %d", k.c, i, o.size, x, err)
		}
		for _, x := range []int{0, 1, -1, k.c.N + 1, math.MaxInt} {
			if err := obj.SetPtr(k.g, o.ref, i, x); err != api.ErrIndex {
				t.Errorf("%v: SetPtr(%d) of the field %d of %v: %d", k.c, x, i, o.size, err)
			}
		}
	}
	for _, i := range append(both, o.ndata, o.ndata+1) {
		if i >= 0 && i < o.ndata {
			continue
		}
		if v, err := obj.Data(k.g, o.ref, i); v != 0 || err != api.ErrIndex {
			t.Errorf("%v: Data of the word %d of %v: %d, %d", k.c, i, o.size, v, err)
		}
		if err := obj.SetData(k.g, o.ref, i, 7); err != api.ErrIndex {
			t.Errorf("%v: SetData of the word %d of %v: %d", k.c, i, o.size, err)
		}
	}
}

// P11.2: a pointer field holds whatever is from 0 to N, an object's reference or not; nothing else, and stays as it was then. A word holds what it likes.
func TestErrArg(t *testing.T) {
	for _, c := range confs {
		k := open(t, c)
		for _, s := range []size{{c.W - 8, 0}, {c.W, c.W}} {
			o := k.make(t, s)
			for _, i := range []int{0, s.nptr - 1} {
				for _, x := range []int{c.N, c.N - 1, 1, 0, c.N} {
					k.put(t, o, i, uint32(x))
					k.agrees(t, o)
				}
				for _, x := range append([]int{-1, -2, -c.N, c.N + 1, c.N + 2, 2 * c.N, 1<<32 + c.N}, far...) {
					if err := obj.SetPtr(k.g, o.ref, i, x); err != api.ErrArg {
						t.Errorf("%v: SetPtr of %d: %d", c, x, err)
					}
				}
				k.check(t, "no references")
			}
			for _, v := range []uint32{math.MaxUint32, 0, 1, 1 << 31, uint32(c.N) + 1} {
				if s.ndata > 0 {
					k.put(t, o, len(o.fields)-1, v)
					k.agrees(t, o)
				}
			}
		}
		k.check(t, "set")
	}
}

// P11.2: of several errors the first one: no object, no field, no reference.
func TestErrorOrder(t *testing.T) {
	k := open(t, some)
	o := k.make(t, size{20, 3})
	k.shed(t, o, 0)
	for _, m := range []struct {
		r, i, x int
		want    api.Errno
	}{{0, 20, -1, api.ErrRef}, {2, -1, 41, api.ErrRef}, {41, 0, -1, api.ErrRef}, {1, 20, -1, api.ErrIndex}, {1, -1, 41, api.ErrIndex}, {1, 16, 41, api.ErrIndex}, {1, 17, 41, api.ErrArg}, {1, 19, -1, api.ErrArg}, {1, 19, 40, api.OK}} {
		if err := obj.SetPtr(k.g, m.r, m.i, m.x); err != m.want {
			t.Errorf("SetPtr(%d, %d, %d): %d, not %d", m.r, m.i, m.x, err, m.want)
		}
	}
}

// P11.2, P11.3, P11.4: what is no object's reference: that of a leaf, of a clean block, of a block that was taken alone, of none.
func TestNone(t *testing.T) {
	for _, c := range confs[:3] {
		k := open(t, c)
		k.leave(t, c.N-1)
		many := k.make(t, size{3, 2*c.W - 5})
		one := k.make(t, size{2, c.W - 11})
		k.fill(t, many, 1)
		k.fill(t, one, 2)
		heads := []int{many.ref, one.ref}
		for r := -1; r <= c.N+2; r++ {
			if slices.Contains(heads, r) != obj.Is(k.g, r) {
				t.Fatalf("%v: Is of %d: %v", c, r, obj.Is(k.g, r))
			}
			if !slices.Contains(heads, r) {
				k.isNone(t, r)
			}
		}
		for _, r := range far {
			k.isNone(t, r)
		}
		for b := range c.N {
			// Neither a kind nor a number alone: also with other bits a clean block and a leaf are none's heads.
			if kind := k.g.SeeWord(b, 0) & 3; kind == api.Leaf {
				k.set(b, 0, math.MaxUint32)
				k.isNone(t, b+1)
			}
		}
	}
}

// P11.3: each leaf is shed, in any order, once: its fields are none any more, those of the others stay, and it is the pool's first block.
func TestShed(t *testing.T) {
	for _, c := range confs[:3] {
		for _, n := range counts(c.W) {
			for _, step := range []int{1, 5, -1} {
				k := open(t, c)
				o := k.make(t, size{n / 3, n - n/3})
				k.fill(t, o, n)
				k.mark(o, n)
				many := len(o.leaves)
				for i := range many {
					leaf := ((i*step)%many + many) % many
					k.shed(t, o, leaf)
					k.shed(t, o, leaf)
					k.check(t, "shed")
					k.agrees(t, o)
				}
				for j := range many {
					k.shed(t, o, j)
				}
				k.check(t, "all were shed")
				k.agrees(t, o)
				for i := range o.fields {
					k.put(t, o, i, 1)
				}
				k.check(t, "nothing is set in what was shed, but what is left")
			}
		}
	}
}

// P11.3: what is no leaf: of an object without leaves, whose fields hold what could be taken for some, and of one with leaves.
func TestShedNoLeaf(t *testing.T) {
	for _, c := range confs {
		for _, s := range []size{{0, 0}, {c.W - 8, 0}, {0, c.W - 8}, {0, c.W - 7}, {c.W, c.W}, {0, mostOf(c.W)}} {
			k := open(t, c)
			o := k.make(t, s)
			for i := range o.fields {
				k.put(t, o, i, uint32(o.ref))
			}
			many := len(o.leaves)
			for _, leaf := range append([]int{-1, -2, -8, many, many + 1, c.W - 8, c.W - 7, c.N}, far...) {
				if leaf < 0 || leaf >= many {
					k.shed(t, o, leaf)
					k.check(t, "no such leaf")
				}
			}
			k.agrees(t, o)
		}
	}
}

// P11.3: a leaf that was shed is used again, and the object it was of tells nothing of that.
func TestShedAndUsedAgain(t *testing.T) {
	k := open(t, some)
	o := k.make(t, size{20, 20})
	k.fill(t, o, 3)
	k.shed(t, o, 1)
	other := k.make(t, size{4, 4})
	if other.ref != o.leaves[1]+1 {
		t.Fatal("the leaf is not the next head:", other.ref)
	}
	k.fill(t, other, 8)
	for i := range o.fields {
		k.put(t, o, i, 2)
	}
	k.shed(t, o, 1)
	k.check(t, "used again")
	k.agrees(t, o)
	k.agrees(t, other)
}

// P11.3: an object is ended: its head is the pool's first block; leaves that were not shed stay as they were, and are nobody's.
func TestEnd(t *testing.T) {
	for _, c := range confs[:3] {
		for i, n := range counts(c.W) {
			for _, sheds := range []int{0, 1, c.W} {
				k := open(t, c)
				o := k.make(t, size{n / 2, n - n/2})
				k.fill(t, o, n)
				k.mark(o, i)
				for j := range min(sheds, len(o.leaves)) {
					k.shed(t, o, j)
				}
				k.end(t, o)
				k.check(t, "ended")
				k.isNone(t, o.ref)
				for j, b := range o.leaves {
					if !o.shed[j] && k.g.SeeWord(b, 0) != uint32(api.Leaf+(o.ref-1)*256) {
						t.Errorf("%v: the leaf %d of what was ended: the tag %d", c, j, k.g.SeeWord(b, 0))
					}
				}
				if again := k.make(t, size{1, 1}); again.ref != o.ref {
					t.Errorf("%v: the next one is %d, not %d", c, again.ref, o.ref)
				}
				k.check(t, "made again")
			}
		}
	}
}

// P11.4: where the words 1 and 2 tell of no object's size, nothing is seen; else what these words tell.
func TestSeeSizes(t *testing.T) {
	for _, c := range confs {
		most := uint32(mostOf(c.W))
		for _, kind := range []uint32{api.Small, api.Spine, api.Small | 31<<2, api.Spine | 1<<31} {
			k := open(t, c)
			o := k.make(t, size{2, 2})
			k.set(o.ref-1, 0, kind)
			for _, n := range []struct {
				nptr, ndata uint32
				want        bool
			}{{0, 0, true}, {most, 0, true}, {0, most, true}, {1, most - 1, true}, {most, 1, false}, {1, most, false}, {0, most + 1, false}, {most + 1, 0, false}, {math.MaxUint32, 1, false}, {math.MaxUint32, math.MaxUint32, false}, {1 << 31, 1 << 31, false}} {
				k.set(o.ref-1, 1, n.nptr)
				k.set(o.ref-1, 2, n.ndata)
				var seen api.Object
				var ok bool
				k.metered(t, "See", 0, func() { seen, ok = obj.See(k.g, o.ref) })
				nptr, ndata := int(n.nptr), int(n.ndata)
				if !n.want {
					nptr, ndata = 0, 0
				}
				if ok != n.want || len(seen.Ptrs) != nptr || len(seen.Data) != ndata {
					t.Errorf("%v: See of %d, %d: %d, %d, %v", c, n.nptr, n.ndata, len(seen.Ptrs), len(seen.Data), ok)
				}
			}
		}
	}
}

// P11.4: what is seen is memory of its own.
func TestSeeIsNewMemory(t *testing.T) {
	for _, s := range []size{{3, 3}, {30, 30}} {
		k := open(t, some)
		o := k.make(t, s)
		k.fill(t, o, 1)
		one, _ := obj.See(k.g, o.ref)
		other, _ := obj.See(k.g, o.ref)
		first, word := other.Ptrs[0], other.Data[0]
		one.Ptrs[0], one.Data[0] = 77, 77
		_, _ = append(one.Ptrs, 78), append(one.Data, 78)
		if other.Ptrs[0] != first || other.Data[0] != word {
			t.Error("two answers share memory")
		}
		k.check(t, "an answer is written into")
		k.put(t, o, 0, 9)
		k.put(t, o, o.nptr, 9)
		if other.Ptrs[0] != first || other.Data[0] != word {
			t.Error("an answer is changed by a later call")
		}
	}
}

// P11.1 to P11.4: a nil ground has no objects.
func TestNilGround(t *testing.T) {
	for _, s := range []size{{0, 0}, {-1, 0}, {0, math.MaxInt}, {3, 4}} {
		if r, err := obj.Make(nil, s.nptr, s.ndata); r != 0 || err != api.ErrConf {
			t.Errorf("Make of %v: %d, %d", s, r, err)
		}
	}
	for _, r := range append([]int{-1, 0, 1, 2}, far...) {
		for _, i := range []int{-1, 0, 1} {
			refuses(t, nil, r, i)
			if obj.Shed(nil, r, i) {
				t.Errorf("Shed of %d: true", r)
			}
		}
		o, ok := obj.See(nil, r)
		if obj.Blocks(nil, r) != 0 || obj.End(nil, r) || ok || len(o.Ptrs) != 0 || len(o.Data) != 0 {
			t.Errorf("%d: Blocks %d, See %v, %v", r, obj.Blocks(nil, r), o, ok)
		}
	}
}

// P11.1 to P11.5: as many blocks as there may be, and the greatest objects in them; no call gets longer by it.
func TestGreatest(t *testing.T) {
	for _, c := range []api.Conf{{N: 262144, W: 16, R: 4096, K: 1}, {N: 16384, W: 256, R: 1, K: 65536}} {
		k := open(t, c)
		k.leave(t, c.W-7)
		o := k.make(t, size{mostOf(c.W) - 2, 2})
		if o == nil || len(k.pool) != 0 || o.leaves[len(o.leaves)-1] != c.N-1 {
			t.Fatalf("%v: the last blocks: %v", c, k.pool)
		}
		k.fill(t, o, c.N-5)
		k.put(t, o, 0, uint32(c.N))
		k.check(t, "filled")
		k.agrees(t, o)
		for j := range o.leaves {
			k.shed(t, o, j)
		}
		k.end(t, o)
		k.check(t, "ended")
	}
}

// P11.1 to P11.5: objects held against plain ones, over calls of all kinds: all words are as they have to be behind each.
func TestAnyCalls(t *testing.T) {
	for _, c := range []api.Conf{{N: 1, W: 16, R: 1, K: 1}, {N: 2, W: 16, R: 1, K: 1}, {N: 12, W: 16, R: 3, K: 1}, {N: 30, W: 17, R: 2, K: 5}, some} {
		k, seed := open(t, c), uint32(c.N)
		next := func(bound int) int {
			seed = seed*1664525 + 1013904223
			return int(seed>>8) % bound
		}
		things := map[int]*thing{}
		for range 3000 {
			anyCall(t, k, things, next)
			k.check(t, "any call")
		}
	}
}

// anyCall does some call. The map has all objects by their references.
func anyCall(t *testing.T, k *kept, things map[int]*thing, next func(int) int) {
	t.Helper()
	if next(4) == 0 {
		if o := k.make(t, size{next(3 * k.c.W / 2), next(k.c.W)}); o != nil {
			k.mark(o, next(1000))
			things[o.ref] = o
		}
		return
	}
	r := next(k.c.N+3) - 1
	o := things[r]
	if o == nil {
		k.isNone(t, r)
		return
	}
	switch call := next(8); {
	case call == 0:
		endWhole(t, k, o)
		delete(things, r)
	case call == 1 && next(4) == 0:
		k.shed(t, o, next(len(o.leaves)+2)-1)
	case call == 2:
		k.agrees(t, o)
	case call == 3:
		k.checkIndexes(t, o)
	case len(o.fields) > 0:
		k.put(t, o, next(len(o.fields)), uint32(next(k.c.N+1)))
	}
}

// endWhole sheds all leaves of an object, and ends it.
func endWhole(t *testing.T, k *kept, o *thing) {
	t.Helper()
	for j := range o.leaves {
		k.shed(t, o, j)
	}
	k.end(t, o)
}

// P11.2, P11.3, and the document's P8: how many accesses there are hangs on no word of an object, and, but for a leaf that is gone through, on no place of a field.
func TestAccesses(t *testing.T) {
	for _, s := range []size{{4, 4}, {20, 20}} {
		var want []uint64
		for seed := range 4 {
			k := open(t, some)
			o := k.make(t, s)
			k.fill(t, o, seed*7)
			k.mark(o, seed)
			var got []uint64
			for i := range o.fields {
				ahead := k.g.Meter()
				k.get(t, o, i)
				k.put(t, o, i, uint32(seed))
				got = append(got, k.g.Meter()-ahead)
			}
			ahead := k.g.Meter()
			endWhole(t, k, o)
			got = append(got, k.g.Meter()-ahead)
			if want == nil {
				want = got
			}
			if !slices.Equal(got, want) {
				t.Errorf("%v: accesses %v, and %v", s, got, want)
			}
		}
	}
}

// P11.1 to P11.4: all that is known of objects are the ground's words: on another ground with the same ones all goes on, access by access.
func TestWordsAreAll(t *testing.T) {
	k := open(t, some)
	o, other := k.make(t, size{20, 20}), k.make(t, size{4, 4})
	k.fill(t, o, 5)
	k.shed(t, o, 1)
	twin := open(t, some)
	if !twin.g.Load(k.g.Words()) {
		t.Fatal("Load")
	}
	twin.others, twin.pool = slices.Clone(k.others), slices.Clone(k.pool)
	var rises [2]uint64
	for i, goesOn := range []*kept{k, twin} {
		its := *o
		its.shed, its.fields = slices.Clone(o.shed), slices.Clone(o.fields)
		ahead := goesOn.g.Meter()
		goesOn.agrees(t, &its)
		goesOn.shed(t, &its, 0)
		goesOn.end(t, other)
		goesOn.make(t, size{1, 30})
		goesOn.check(t, "gone on")
		rises[i] = goesOn.g.Meter() - ahead
	}
	if rises[0] != rises[1] {
		t.Errorf("%d accesses, and %d", rises[0], rises[1])
	}
}

// P11.1 to P11.4: where words were set otherwise nothing is promised but that each call ends, and is not long.
func TestSetOtherwise(t *testing.T) {
	values := []uint32{0, 1, 2, 3, 40, 41, 1 << 20, 1 << 31, math.MaxUint32 - 1, math.MaxUint32}
	for _, name := range values {
		for _, n := range values {
			for _, registers := range values {
				for kind := range uint32(4) {
					k := open(t, some)
					l := k.g.Words()
					l[0], l[1], l[2] = registers, name, registers
					for i := k.at(0, 0); i < len(l); i++ {
						l[i] = name
					}
					for b := range some.N {
						l[k.at(b, 0)], l[k.at(b, 1)], l[k.at(b, 2)] = kind|name<<8, n, name
					}
					if !k.g.Load(l) {
						t.Fatal("Load")
					}
					endsAll(t, k)
				}
			}
		}
	}
}

// endsAll does each call, and tells where one makes too many accesses.
func endsAll(t *testing.T, k *kept) {
	t.Helper()
	for _, i := range []int{0, 1, 16, 17, 18, 169, -1} {
		k.metered(t, "Is", 12, func() { obj.Is(k.g, 2) })
		k.metered(t, "Lens", 12, func() { obj.Lens(k.g, 2) })
		k.metered(t, "Ptr", 12, func() { obj.Ptr(k.g, 2, i) })
		k.metered(t, "SetPtr", 12, func() { obj.SetPtr(k.g, 2, i, 1) })
		k.metered(t, "Data", 12, func() { obj.Data(k.g, 2, i) })
		k.metered(t, "SetData", 12, func() { obj.SetData(k.g, 2, i, 1) })
		k.metered(t, "Blocks", 12, func() { obj.Blocks(k.g, 2) })
		k.metered(t, "See", 0, func() { obj.See(k.g, 2) })
		obj.Shed(k.g, 2, i)
	}
	obj.End(k.g, 2)
	obj.Make(k.g, 3, 20)
	obj.Make(k.g, 0, 0)
}
