package tag_test

import (
	"math"
	"testing"

	"quitrent/api"
	"quitrent/tag"
)

// someNumbers are ends of what a field may be, what lies beyond them, and numbers whose low bits alone would be right.
var someNumbers = []int{
	math.MinInt, math.MinInt + 1, -1 << 32, -1 << 24, -256, -5, -2, -1, 0, 1, 2, 3, 4, 5, 7, 8, 255, 256, 257,
	api.MaxN - 1, api.MaxN, api.MaxN + 1, 1<<24 - 1, 1 << 24, 1<<24 + 1, math.MaxUint32, 1 << 32, 1<<32 + 1, math.MaxInt - 1, math.MaxInt,
}

// someOwners are owners that a leaf may have.
var someOwners = []int{0, 1, 2, 3, 127, 128, 255, 256, 12345, 0x55555, 0xaaaaa, 1 << 19, api.MaxN - 2, api.MaxN - 1}

// greatOwners are owners that 24 bits hold, but that no leaf has.
var greatOwners = []int{api.MaxN, api.MaxN + 1, 1 << 21, 1 << 22, 1 << 23, 0xf00001, 1<<24 - 2, 1<<24 - 1}

// wrongKinds are no kinds of blocks.
var wrongKinds = []int{math.MinInt, -1 << 32, -4, -2, -1, 4, 5, 6, 7, 8, 256, 1 << 32, math.MaxInt}

// wrongNames are names of no kind.
var wrongNames = []string{"", " ", "0", "1", "Free", "FREE", "SMALL", "Spine", "fre", "ree", "f", "free ", " free", "free\x00", "free\n", "frees", "freesmall", "free small", "leaves", "none", "idle", "head", "fr\xc3\xa9e"}

// kindNames are the names of the kinds, in their order.
var kindNames = []string{"free", "small", "spine", "leaf"}

// markSets calls f with each set of five numbers out of l.
func markSets(l []int, f func(m [5]int)) {
	for _, a := range l {
		for _, b := range l {
			for _, c := range l {
				for _, d := range l {
					for _, e := range l {
						f([5]int{a, b, c, d, e})
					}
				}
			}
		}
	}
}

// made answers a tag of its numbers.
func made(kind int, m [5]int, owner int) api.Tag {
	return api.Tag{Kind: kind, Color: m[0], Count: m[1], Shade: m[2], Dead: m[3], Ring: m[4], Owner: owner}
}

// mayBe tells whether a tag is right, one rule of the chapter after the other.
func mayBe(t api.Tag) bool {
	marks, ones := []int{t.Color, t.Count, t.Shade, t.Dead, t.Ring}, 0
	for _, m := range marks {
		if m != 0 && m != 1 {
			return false
		}
		ones += m
	}
	switch t.Kind {
	case api.Free:
		return ones == 0 && t.Owner == 0
	case api.Small, api.Spine:
		return t.Owner == 0
	case api.Leaf:
		return ones == 0 && t.Owner >= 0 && t.Owner <= api.MaxN-1
	}
	return false
}

// wordOf answers a right tag's word, as a sum.
func wordOf(t api.Tag) uint32 {
	return uint32(t.Kind + 4*t.Color + 8*t.Count + 16*t.Shade + 32*t.Dead + 64*t.Ring + 256*t.Owner)
}

// takenApart answers what stands in a word, by quotients and rests.
func takenApart(w uint32) api.Tag {
	rest := func(by uint32) int {
		r := w % by
		w /= by
		return int(r)
	}
	t := api.Tag{Kind: rest(4)}
	t.Color = rest(2)
	t.Count = rest(2)
	t.Shade = rest(2)
	t.Dead = rest(2)
	t.Ring = rest(2)
	rest(2)
	t.Owner = int(w)
	return t
}

// eachRight calls f with each right tag of no owner, and with leaves of some.
func eachRight(f func(t api.Tag)) {
	f(api.Tag{})
	markSets([]int{0, 1}, func(m [5]int) {
		f(made(api.Small, m, 0))
		f(made(api.Spine, m, 0))
	})
	for _, o := range someOwners {
		f(api.Tag{Kind: api.Leaf, Owner: o})
	}
}

// eachWord calls f with each word of all low bytes and of owners that may be and that may not.
func eachWord(f func(w uint32)) {
	for _, owners := range [][]int{someOwners, greatOwners} {
		for _, o := range owners {
			for low := range 256 {
				f(uint32(256*o + low))
			}
		}
	}
}

// check holds Right and Pack of one tag against the chapter's rules.
func check(t *testing.T, g api.Tag) {
	t.Helper()
	want, wantErr := uint32(0), api.ErrArg
	if mayBe(g) {
		want, wantErr = wordOf(g), api.OK
	}
	if tag.Right(g) != mayBe(g) {
		t.Errorf("Right(%+v) = %v", g, tag.Right(g))
	}
	if w, err := tag.Pack(g); w != want || err != wantErr {
		t.Errorf("Pack(%+v) = %d, %d, want %d, %d", g, w, err, want, wantErr)
	}
}

// P6.1 and the chapter's examples.
func TestExamples(t *testing.T) {
	for _, c := range []struct {
		t api.Tag
		w uint32
	}{
		{api.Tag{}, 0},
		{api.Tag{Kind: api.Leaf, Owner: 3}, 771},
		{api.Tag{Kind: api.Spine, Color: 1, Ring: 1}, 70},
		{api.Tag{Kind: api.Small, Color: 1}, 5},
		{api.Tag{Kind: api.Small, Count: 1}, 9},
		{api.Tag{Kind: api.Small, Shade: 1}, 17},
		{api.Tag{Kind: api.Small, Dead: 1}, 33},
		{api.Tag{Kind: api.Small, Ring: 1}, 65},
		{api.Tag{Kind: api.Spine, Color: 1, Count: 1, Shade: 1, Dead: 1, Ring: 1}, 126},
		{api.Tag{Kind: api.Leaf, Owner: api.MaxN - 1}, 1<<28 - 256 + 3},
	} {
		if w, err := tag.Pack(c.t); w != c.w || err != api.OK {
			t.Errorf("Pack(%+v) = %d, %d, want %d", c.t, w, err, c.w)
		}
		if u := tag.Unpack(c.w); u != c.t {
			t.Errorf("Unpack(%d) = %+v, want %+v", c.w, u, c.t)
		}
		if !tag.Right(c.t) {
			t.Errorf("Right(%+v) = false", c.t)
		}
	}
}

// P6.1: each kind with marks that may be and that may not, and with owners at their ends and beyond.
func TestRightAndPack(t *testing.T) {
	kinds := append([]int{api.Free, api.Small, api.Spine, api.Leaf}, wrongKinds...)
	owners := []int{math.MinInt, -1, 0, 1, api.MaxN - 1, api.MaxN, 1<<24 - 1, 1 << 24, 1 << 32, math.MaxInt}
	for _, kind := range kinds {
		for _, owner := range owners {
			markSets([]int{-1, 0, 1, 2}, func(m [5]int) {
				check(t, made(kind, m, owner))
			})
		}
	}
}

// P6.1: of each right tag each field alone, at its ends and beyond.
func TestFieldsAlone(t *testing.T) {
	eachRight(func(right api.Tag) {
		check(t, right)
		for _, n := range someNumbers {
			for field := range 7 {
				g := right
				*[]*int{&g.Kind, &g.Color, &g.Count, &g.Shade, &g.Dead, &g.Ring, &g.Owner}[field] = n
				check(t, g)
			}
		}
	})
}

// P6.1: two marks that are wrong together don't make a right one.
func TestWrongMarksTogether(t *testing.T) {
	for _, kind := range []int{api.Free, api.Small, api.Spine, api.Leaf} {
		for _, m := range [][5]int{{1, -1}, {-1, 1}, {2, -2}, {-1, -1}, {1, 0, 0, 0, -1}, {0, 1, -2, 1}, {1 << 32}, {1<<32 + 1}, {0, 0, 0, 0, 256}} {
			check(t, made(kind, m, 0))
		}
	}
}

// P6.1: each bit of a word stands for what the chapter says, and bit 7 for nothing.
func TestUnpackBits(t *testing.T) {
	want := []api.Tag{{Kind: 1}, {Kind: 2}, {Color: 1}, {Count: 1}, {Shade: 1}, {Dead: 1}, {Ring: 1}, {}}
	for i := range 24 {
		want = append(want, api.Tag{Owner: 1 << i})
	}
	for bit, g := range want {
		if u := tag.Unpack(1 << bit); u != g {
			t.Errorf("bit %d alone: %+v, want %+v", bit, u, g)
		}
	}
	every := api.Tag{Kind: 3, Color: 1, Count: 1, Shade: 1, Dead: 1, Ring: 1, Owner: 1<<24 - 1}
	for _, w := range []uint32{math.MaxUint32, math.MaxUint32 - 128} {
		if u := tag.Unpack(w); u != every {
			t.Errorf("Unpack(%d) = %+v, want %+v", w, u, every)
		}
	}
}

// P6.1: words are unpacked whether they are right tags' or not.
func TestUnpackWords(t *testing.T) {
	one := func(w uint32) {
		if u := tag.Unpack(w); u != takenApart(w) {
			t.Errorf("Unpack(%d) = %+v, want %+v", w, u, takenApart(w))
		}
		if tag.Unpack(w) != tag.Unpack(w^128) {
			t.Errorf("bit 7 of %d is looked at", w)
		}
	}
	eachWord(one)
	w := uint32(1)
	for range 100000 {
		one(w)
		w = w*1664525 + 1013904223
	}
}

// P6.2: the names of the kinds, there and back.
func TestNames(t *testing.T) {
	for kind, name := range kindNames {
		if n := tag.Name(kind); n != name {
			t.Errorf("Name(%d) = %q, want %q", kind, n, name)
		}
		if k, ok := tag.Kind(name); k != kind || !ok {
			t.Errorf("Kind(%q) = %d, %v, want %d", name, k, ok, kind)
		}
	}
	if tag.Name(api.Free) != "free" || tag.Name(api.Small) != "small" || tag.Name(api.Spine) != "spine" || tag.Name(api.Leaf) != "leaf" {
		t.Error("the kinds of package api have other names")
	}
}

// P6.2: what is no kind has no name, and what is no name has no kind.
func TestNoNames(t *testing.T) {
	for _, kind := range wrongKinds {
		if n := tag.Name(kind); n != "" {
			t.Errorf("Name(%d) = %q", kind, n)
		}
	}
	for _, name := range wrongNames {
		if k, ok := tag.Kind(name); k != 0 || ok {
			t.Errorf("Kind(%q) = %d, %v", name, k, ok)
		}
	}
}

// P6.3: what is packed is unpacked as it was.
func TestThereAndBack(t *testing.T) {
	eachRight(func(g api.Tag) {
		w, err := tag.Pack(g)
		if err != api.OK || tag.Unpack(w) != g {
			t.Errorf("%+v: %d, %d, unpacked %+v", g, w, err, tag.Unpack(w))
		}
	})
	for o := range api.MaxN {
		g := api.Tag{Kind: api.Leaf, Owner: o}
		if w, err := tag.Pack(g); err != api.OK || tag.Unpack(w) != g {
			t.Fatalf("%+v: %d, %d, unpacked %+v", g, w, err, tag.Unpack(w))
		}
	}
}

// P6.3: a word is a right tag's just if packing what it unpacks to makes it again.
func TestJustRightTagsWords(t *testing.T) {
	right := map[uint32]bool{}
	eachRight(func(g api.Tag) {
		right[wordOf(g)] = true
	})
	again := 0
	eachWord(func(w uint32) {
		p, err := tag.Pack(tag.Unpack(w))
		same := err == api.OK && p == w
		if same != right[w] {
			t.Errorf("word %d: packed again %d, %d", w, p, err)
		}
		if same {
			again++
		}
	})
	// Free, all marks of Small and of Spine, and the leaves.
	if want := 1 + 32 + 32 + len(someOwners); again != want || len(right) != want {
		t.Errorf("%d words are made again, of %d, want %d", again, len(right), want)
	}
}
