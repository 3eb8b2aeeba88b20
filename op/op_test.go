package op_test

import (
	"math"
	"slices"
	"testing"

	"quitrent/api"
	"quitrent/op"
	"quitrent/shape"
)

// wrongNames are names of no kind.
var wrongNames = []string{
	"", " ", "0", "1", "3", "Alloc", "ALLOC", "Load", "STORE", "rEad", "writE", "tick ", " tick", "tick\n", "tick\x00", "ticks", "ti", "t", "ick",
	"al", "allocs", "alloc 1", "load store", "loadstore", "lenn", "le", "drops", "sam", "free", "none", "heap", "settle", "tally", "op", "OpTick", "tíck", "tick\xff", "\xff",
}

// P22.1 and the chapter's example.
func TestExample(t *testing.T) {
	o := api.Op{Kind: 3, A: 1, B: 0, C: 2}
	if n := op.Name(o.Kind); n != "store" {
		t.Errorf("the name of the kind 3: %q", n)
	}
	if l := op.Slots(o); !slices.Equal(l, []int{1, 2}) {
		t.Errorf("its slots: %v", l)
	}
	if o != stores(1, 0, 2) || !op.Plain(o) || op.Bare(o) != o {
		t.Errorf("%v isn't plain", o)
	}
}

// P22.1: each of the ten kinds has its name, and each name its kind.
func TestNames(t *testing.T) {
	all := []int{api.OpAlloc, api.OpLoad, api.OpStore, api.OpRead, api.OpWrite, api.OpCopy, api.OpDrop, api.OpSame, api.OpLen, api.OpTick}
	for i, k := range kinds {
		if k.number != all[i] {
			t.Fatalf("the kind %d isn't %d", k.number, all[i])
		}
		if n := op.Name(k.number); n != k.name {
			t.Errorf("Name(%d) = %q, want %q", k.number, n, k.name)
		}
		if n, ok := op.Kind(k.name); n != k.number || !ok {
			t.Errorf("Kind(%q) = %d, %v, want %d", k.name, n, ok, k.number)
		}
	}
}

// P22.1: another kind has no name, and another name no kind.
func TestNoNames(t *testing.T) {
	for _, n := range wrongKinds {
		if name := op.Name(n); name != "" {
			t.Errorf("Name(%d) = %q", n, name)
		}
	}
	for n := -1000; n <= 1000; n++ {
		if name := op.Name(n); name != "" && (n < 1 || n > 10) {
			t.Errorf("Name(%d) = %q", n, name)
		}
	}
	for _, name := range wrongNames {
		if n, ok := op.Kind(name); n != 0 || ok {
			t.Errorf("Kind(%q) = %d, %v", name, n, ok)
		}
	}
}

// P22.1: one byte of a name less, more or another makes it none.
func TestNamesAlmost(t *testing.T) {
	for _, k := range kinds {
		for i := range k.name {
			ahead, behind := k.name[:i], k.name[i+1:]
			for _, name := range []string{ahead + behind, ahead + string(k.name[i]-32) + behind, ahead + "z" + behind, ahead + " " + k.name[i:], ahead + k.name[i:i+1] + k.name[i:]} {
				if n, ok := op.Kind(name); n != 0 || ok {
					t.Errorf("Kind(%q) = %d, %v", name, n, ok)
				}
			}
		}
	}
}

// numbers are what the fields of an operation may be in what is asked of it alone.
var numbers = append([]int{0, 1, -1, 2, 7}, far...)

// P22.1: an operation that has what it needs alone is plain, whatever that is, and bare.
func TestPlain(t *testing.T) {
	for _, k := range kinds {
		for i, n := range numbers {
			o := k.made(n, numbers[(i+3)%len(numbers)], numbers[(i+7)%len(numbers)])
			if !op.Plain(o) {
				t.Errorf("%s %v isn't plain", k.name, o)
			}
			if b := op.Bare(o); b != o {
				t.Errorf("%s: Bare(%v) = %v", k.name, o, b)
			}
		}
	}
}

// P22.1: an operation is plain no more with one number that its kind doesn't need; Bare takes away that one alone.
func TestNotPlain(t *testing.T) {
	met := 0
	for _, k := range kinds {
		for _, name := range "ABCV" {
			if k.wants(name) {
				continue
			}
			met++
			for _, own := range numbers {
				o := k.made(own, own, own)
				for _, n := range numbers {
					x := with(o, name, n)
					// A word has the low bits of a number alone.
					if field(x, name) == 0 {
						continue
					}
					if op.Plain(x) {
						t.Errorf("%s %v is plain", k.name, x)
					}
					if b := op.Bare(x); b != o {
						t.Errorf("%s: Bare(%v) = %v, want %v", k.name, x, b, o)
					}
				}
			}
		}
	}
	if met != 20 {
		t.Errorf("%d numbers that aren't needed, not 20: that tells too little", met)
	}
}

// P22.1: Bare of each kind with all numbers set, each to another one, and to each one; what is bare is plain.
func TestBare(t *testing.T) {
	for _, k := range kinds {
		for _, n := range numbers {
			for _, o := range []api.Op{{Kind: k.number, A: 1, B: 2, C: 3, V: 4}, {Kind: k.number, A: n, B: n, C: n, V: uint32(n)}, {Kind: k.number, A: n, B: ^n, C: -n, V: most}} {
				want := api.Op{Kind: k.number}
				for _, name := range k.needs {
					want = with(want, name, field(o, name))
				}
				b := op.Bare(o)
				if b != want {
					t.Errorf("%s: Bare(%v) = %v, want %v", k.name, o, b, want)
				}
				if !op.Plain(b) || op.Bare(b) != b {
					t.Errorf("%s: %v isn't bare", k.name, b)
				}
				if op.Plain(o) != (o == want) {
					t.Errorf("%s: Plain(%v) = %v", k.name, o, op.Plain(o))
				}
			}
		}
	}
}

// P22.1: an operation of another kind is not plain, needs no slot and no block, and nothing of it is bare.
func TestAnotherKind(t *testing.T) {
	for _, kind := range wrongKinds {
		for _, o := range []api.Op{{Kind: kind}, {Kind: kind, A: 1, B: 2, C: 3, V: 4}, {Kind: kind, A: 1}, {Kind: kind, B: -1}, {Kind: kind, C: math.MaxInt}, {Kind: kind, V: most}} {
			if op.Plain(o) {
				t.Errorf("%v is plain", o)
			}
			if b := op.Bare(o); b != (api.Op{}) {
				t.Errorf("Bare(%v) = %v", o, b)
			}
			if l := op.Slots(o); len(l) != 0 {
				t.Errorf("Slots(%v) = %v", o, l)
			}
			if n := op.Needs(small, o); n != 0 {
				t.Errorf("Needs of %v: %d", o, n)
			}
		}
	}
}

// P22.1: the slots of each kind, in the order of A, B, C, also such as no heap has, and one that is told twice.
func TestSlots(t *testing.T) {
	rows := [][]int{{1, 2, 3}, {3, 2, 1}, {0, 0, 0}, {5, 5, 5}, {-1, -2, -3}, {api.MaxR, api.MaxR + 1, api.MaxR + 2}}
	for i, n := range far {
		rows = append(rows, []int{n, far[(i+1)%len(far)], far[(i+2)%len(far)]})
	}
	for _, k := range kinds {
		for _, r := range rows {
			o := api.Op{Kind: k.number, A: r[0], B: r[1], C: r[2], V: 9}
			want := []int{}
			for _, name := range k.slot {
				want = append(want, field(o, name))
			}
			if l := op.Slots(o); !slices.Equal(l, want) {
				t.Errorf("%s: Slots(%v) = %v, want %v", k.name, o, l, want)
			}
		}
	}
}

// P22.1: who gets slots may write into them, and behind them.
func TestSlotsAreOnesOwn(t *testing.T) {
	for _, k := range kinds {
		o := k.made(1, 2, 3)
		want := slices.Clone(op.Slots(o))
		l := op.Slots(o)
		for i := range l {
			l[i] = 77
		}
		_ = append(l[:0:cap(l)], 88)
		if again := op.Slots(o); !slices.Equal(again, want) {
			t.Errorf("%s: %v, not %v", k.name, again, want)
		}
	}
}

// P22.1: of how many blocks the object of an Alloc is, as it is written down by hand.
func TestNeeds(t *testing.T) {
	for _, x := range []struct{ w, nptr, ndata, want int }{
		{16, 0, 0, 1}, {16, 1, 0, 1}, {16, 0, 1, 1}, {16, 8, 0, 1}, {16, 0, 8, 1}, {16, 4, 4, 1},
		{16, 9, 0, 2}, {16, 0, 9, 2}, {16, 4, 5, 2}, {16, 15, 0, 2}, {16, 8, 8, 3}, {16, 0, 30, 3}, {16, 31, 0, 4},
		{16, 40, 40, 7}, {16, 120, 0, 9}, {16, 0, 120, 9}, {16, 60, 60, 9}, {16, 60, 61, 0}, {16, 121, 0, 0}, {16, 0, 121, 0}, {16, 100, 100, 0},
		{16, -1, 0, 0}, {16, 0, -1, 0}, {16, -1, 2, 0}, {16, 2, -1, 0}, {16, math.MinInt, math.MaxInt, 0}, {16, math.MaxInt, math.MaxInt, 0}, {16, math.MaxInt, 1, 0}, {16, 1 << 32, 0, 0},
		{17, 9, 0, 1}, {17, 10, 0, 2}, {17, 144, 0, 10}, {17, 145, 0, 0},
		{256, 248, 0, 1}, {256, 0, 249, 2}, {256, 63240, 0, 249}, {256, 31620, 31620, 249}, {256, 63240, 1, 0}, {256, 63241, 0, 0},
		{0, 1, 1, 0}, {15, 0, 0, 0}, {257, 0, 0, 0}, {-16, 0, 0, 0}, {1<<32 + 16, 0, 0, 0}, {math.MinInt, 0, 0, 0}, {math.MaxInt, 0, 0, 0},
	} {
		for _, c := range []api.Conf{{N: 9, W: x.w, R: 4, K: 2}, {N: 1, W: x.w, R: 1, K: 1}, {W: x.w}, {N: -1, W: x.w, R: math.MaxInt, K: math.MinInt}} {
			for _, slot := range []int{0, 3, -1, math.MaxInt} {
				if n := op.Needs(c, allocates(slot, x.nptr, x.ndata)); n != x.want {
					t.Errorf("%v: an object of %d pointer fields and %d words: %d blocks, want %d", c, x.nptr, x.ndata, n, x.want)
				}
			}
		}
	}
}

// P22.1: at each width, the greatest object and one field more, and what layer 7 says of any other one.
func TestNeedsAtEachWidth(t *testing.T) {
	for w := api.LeastW; w <= api.MaxW; w++ {
		fields := (w - 8) * (w - 1)
		for n, want := range map[int]int{0: 1, w - 8: 1, w - 7: 2, fields: w - 7, fields + 1: 0} {
			for _, o := range []api.Op{allocates(0, n, 0), allocates(0, 0, n), allocates(0, n/2, n-n/2)} {
				if got := op.Needs(api.Conf{W: w}, o); got != want {
					t.Errorf("the width %d: %v: %d blocks, want %d", w, o, got, want)
				}
			}
		}
		for n := 0; n <= fields; n += 1 + n/3 {
			if got, want := op.Needs(api.Conf{W: w}, allocates(0, n/3, n-n/3)), blocks(w, n); got != want {
				t.Errorf("the width %d: %d fields: %d blocks, want %d", w, n, got, want)
			}
		}
	}
}

// blocks is what layer 7 says of so many fields.
func blocks(w, fields int) int {
	n, _ := shape.Blocks(w, fields, 0)
	return n
}

// P22.1: what is no Alloc needs no block, whatever its numbers are.
func TestNeedsOfNoAlloc(t *testing.T) {
	for _, k := range kinds[1:] {
		for _, o := range []api.Op{{Kind: k.number}, {Kind: k.number, A: 1, B: 1, C: 1}, {Kind: k.number, A: 0, B: 9, C: 9}, {Kind: k.number, B: 20, C: 20, V: 20}} {
			for _, c := range append([]api.Conf{{}, {W: 16}}, confs...) {
				if n := op.Needs(c, o); n != 0 {
					t.Errorf("%v: %s %v: %d blocks", c, k.name, o, n)
				}
			}
		}
	}
}
