package op_test

import (
	"slices"
	"testing"

	"quitrent/api"
	"quitrent/op"
)

// needless are what a number that a kind doesn't need is set to: also such as would be a wrong slot, a wrong field, or far too great.
var needless = append([]int{1, 2, 3, 8, -1, -2, 100}, far...)

// same tells where an operation and one that differs in what its kind doesn't need alone aren't told alike: by what is asked of them, and by what they do on two heaps with the same words.
func same(t *testing.T, l []api.Op, o, other api.Op, c api.Conf) {
	t.Helper()
	if !slices.Equal(op.Slots(o), op.Slots(other)) || op.Needs(c, o) != op.Needs(c, other) || op.Bare(o) != op.Bare(other) || op.Name(o.Kind) != op.Name(other.Kind) {
		t.Errorf("%v and %v are told apart", o, other)
	}
	h, twin := open(t, c), open(t, c)
	op.Run(h, l)
	op.Run(twin, l)
	a, b := op.Do(h, o), op.Do(twin, other)
	if a != b {
		t.Errorf("%v: %v: %v; %v: %v", c, o, a, other, b)
	}
	alike(t, o, h, twin, 0)
}

// P22.3: of each kind, right and wrong, each number that it doesn't need set to anything, alone and with all others.
func TestNeedlessNumbers(t *testing.T) {
	ahead := []api.Op{allocates(0, 1, 2), allocates(1, 2, 1), stores(0, 0, 1), stores(1, 1, 0), writes(1, 0, 9), writes(0, 1, 8), allocates(2, 0, 9)}
	met := 0
	for _, k := range kinds {
		for _, o := range []api.Op{k.made(0, 0, 1), k.made(1, 0, 0), k.made(0, 1, 0), k.made(2, 0, 0), k.made(3, 3, 3), k.made(4, 0, 0), k.made(-1, -1, -1)} {
			for _, n := range needless {
				same(t, ahead, o, k.stuffed(o, n), small)
				for _, name := range "ABCV" {
					if x := with(o, name, n); !k.wants(name) && x != o {
						same(t, ahead, o, x, small)
						met++
					}
				}
			}
		}
	}
	if met < 3000 {
		t.Errorf("%d operations: that tells too little", met)
	}
}

// P22.3: of another kind no number is needed.
func TestNeedlessOfAnotherKind(t *testing.T) {
	for _, kind := range wrongKinds {
		for _, n := range needless {
			same(t, []api.Op{allocates(0, 1, 1)}, api.Op{Kind: kind}, api.Op{Kind: kind, A: n, B: n, C: n, V: uint32(n)}, small)
		}
	}
}

// P22.3: a long row of operations that are stuffed with what they don't need tells and does what the bare ones do, access by access.
func TestNeedlessInARow(t *testing.T) {
	for i, c := range confs {
		next := chance(uint32(50 + i))
		plain, stuffed, bare := []api.Op{}, []api.Op{}, []api.Op{}
		for range 2500 {
			o := op.Bare(anyOp(next, c))
			x := o
			if op.Plain(o) {
				x = kinds[o.Kind-1].stuffed(o, needless[next(len(needless))])
			}
			plain, stuffed, bare = append(plain, o), append(stuffed, x), append(bare, op.Bare(x))
		}
		if !slices.Equal(bare, plain) {
			t.Fatalf("%v: what is bare isn't what was stuffed", c)
		}
		h, other := open(t, c), open(t, c)
		if !slices.Equal(op.Run(h, plain), op.Run(other, stuffed)) {
			t.Fatalf("%v: other answers", c)
		}
		alike(t, api.Op{}, h, other, 0)
	}
}
