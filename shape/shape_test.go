package shape_test

import (
	"math"
	"testing"

	"quitrent/api"
	"quitrent/shape"
)

// wrongWidths are no widths, some of which would be one by their low bits alone.
var wrongWidths = []int{math.MinInt, -1 << 32, -256, -16, -1, 0, 1, 7, 8, 9, 14, 15, 257, 258, 512, 1<<32 + 16, math.MaxInt - 1, math.MaxInt}

// someWidths are the ends of what a width may be, and some between.
var someWidths = []int{16, 17, 18, 31, 32, 33, 64, 100, 127, 128, 255, 256}

// farNumbers are numbers far from all that an object has.
var farNumbers = []int{math.MinInt, math.MinInt + 1, -1 << 62, -1 << 50, -1 << 32, -1000, 1 << 20, 1 << 32, 1<<32 + 1, 1 << 50, 1<<50 + 1, 1 << 62, math.MaxInt - 256, math.MaxInt - 1, math.MaxInt}

// spot is where a field lies: a leaf, or -1 for the head, and a word of it.
type spot struct {
	leaf, at int
}

// most answers how many fields an object has at most, by the chapter's words.
func most(w int) int {
	return (w - 8) * (w - 1)
}

// laid answers where so many fields lie, put down one behind the other.
func laid(w, fields int) []spot {
	l := []spot{}
	if fields <= w-8 {
		for i := range fields {
			l = append(l, spot{-1, 8 + i})
		}
		return l
	}
	next := spot{0, 1}
	for range fields {
		l = append(l, next)
		next.at++
		if next.at == w {
			next = spot{next.leaf + 1, 1}
		}
	}
	return l
}

// blocksOf answers of how many blocks an object is whose fields lie there.
func blocksOf(l []spot) int {
	if len(l) == 0 {
		return 1
	}
	// The leaves from 0 on, and the head.
	return l[len(l)-1].leaf + 2
}

// edges answers numbers of fields: none, what just fills the head or some leaves, one less and one more, the most.
func edges(w int) []int {
	p := w - 1
	l := []int{0, 1, 2, w - 9, w - 8, w - 7}
	for _, leaves := range []int{1, 2, 3, (w - 8) / 2, w - 10, w - 9} {
		l = append(l, leaves*p-1, leaves*p, leaves*p+1)
	}
	return append(l, most(w)-1, most(w))
}

// wrongSizes answers numbers of fields that no object has.
func wrongSizes(w int) []int {
	l := []int{-1, -2, -w, most(w) + 1, most(w) + 2, 2 * most(w)}
	return append(l, farNumbers...)
}

func checkBlocks(t *testing.T, w, nptr, ndata, want int, wantErr api.Errno) {
	t.Helper()
	if n, err := shape.Blocks(w, nptr, ndata); n != want || err != wantErr {
		t.Errorf("Blocks(%d, %d, %d) = %d, %d, want %d, %d", w, nptr, ndata, n, err, want, wantErr)
	}
}

func checkPlace(t *testing.T, w, fields, i int, want spot, wantErr api.Errno) {
	t.Helper()
	if leaf, at, err := shape.Place(w, fields, i); leaf != want.leaf || at != want.at || err != wantErr {
		t.Errorf("Place(%d, %d, %d) = %d, %d, %d, want %v, %d", w, fields, i, leaf, at, err, want, wantErr)
	}
}

func checkBack(t *testing.T, w, fields int, s spot, want int, wantErr api.Errno) {
	t.Helper()
	if i, err := shape.Back(w, fields, s.leaf, s.at); i != want || err != wantErr {
		t.Errorf("Back(%d, %d, %d, %d) = %d, %d, want %d, %d", w, fields, s.leaf, s.at, i, err, want, wantErr)
	}
}

func checkFull(t *testing.T, w, fields, leaf, want int) {
	t.Helper()
	if n := shape.Full(w, fields, leaf); n != want {
		t.Errorf("Full(%d, %d, %d) = %d, want %d", w, fields, leaf, n, want)
	}
}

func checkLargest(t *testing.T, w, blocks, want int) {
	t.Helper()
	if n := shape.Largest(w, blocks); n != want {
		t.Errorf("Largest(%d, %d) = %d, want %d", w, blocks, n, want)
	}
}

// P7.1, P7.2, P7.3: the chapter's examples, and what else is plain of that width and of the greatest one.
func TestExamples(t *testing.T) {
	checkBlocks(t, 16, 8, 0, 1, api.OK)
	checkBlocks(t, 16, 0, 8, 1, api.OK)
	checkBlocks(t, 16, 4, 5, 2, api.OK)
	checkBlocks(t, 16, 9, 0, 2, api.OK)
	checkBlocks(t, 16, 15, 0, 2, api.OK)
	checkBlocks(t, 16, 16, 0, 3, api.OK)
	checkBlocks(t, 16, 0, 16, 3, api.OK)
	checkBlocks(t, 16, 40, 40, 7, api.OK)
	checkBlocks(t, 16, 0, 0, 1, api.OK)
	checkBlocks(t, 16, 120, 0, 9, api.OK)
	checkBlocks(t, 256, 248, 0, 1, api.OK)
	checkBlocks(t, 256, 200, 49, 2, api.OK)
	checkBlocks(t, 256, 0, 63240, 249, api.OK)
	checkPlace(t, 16, 16, 15, spot{1, 1}, api.OK)
	checkPlace(t, 16, 16, 14, spot{0, 15}, api.OK)
	checkPlace(t, 16, 16, 0, spot{0, 1}, api.OK)
	checkPlace(t, 16, 8, 0, spot{-1, 8}, api.OK)
	checkPlace(t, 16, 120, 119, spot{7, 15}, api.OK)
	checkPlace(t, 256, 63240, 63239, spot{247, 255}, api.OK)
	checkBack(t, 16, 16, spot{1, 1}, 15, api.OK)
	checkBack(t, 16, 8, spot{-1, 15}, 7, api.OK)
	checkFull(t, 16, 16, 0, 15)
	checkFull(t, 16, 16, 1, 1)
	checkFull(t, 16, 8, -1, 8)
	checkLargest(t, 16, 1, 8)
	checkLargest(t, 16, 2, 15)
	checkLargest(t, 16, 9, 120)
	checkLargest(t, 256, 249, 63240)
}

// P7.1: numbers of fields at their ends, parted between pointer fields and words in several ways.
func TestBlocksOfEdges(t *testing.T) {
	for _, w := range someWidths {
		for _, n := range edges(w) {
			want := blocksOf(laid(w, n))
			for _, nptr := range []int{0, 1, n / 3, n / 2, n - 1, n} {
				if nptr >= 0 && nptr <= n {
					checkBlocks(t, w, nptr, n-nptr, want, api.OK)
				}
			}
		}
	}
}

// P7.1: all pairs of numbers, of the least width, with those that no object has.
func TestBlocksOfAllPairs(t *testing.T) {
	blocks := []int{}
	for n := range most(16) + 1 {
		blocks = append(blocks, blocksOf(laid(16, n)))
	}
	for nptr := -3; nptr <= 125; nptr++ {
		for ndata := -3; ndata <= 125; ndata++ {
			if nptr < 0 || ndata < 0 || nptr+ndata > most(16) {
				checkBlocks(t, 16, nptr, ndata, 0, api.ErrSize)
			} else {
				checkBlocks(t, 16, nptr, ndata, blocks[nptr+ndata], api.OK)
			}
		}
	}
}

// P7.1: sizes that no object has, alone and with one that some object has; their sum may be more than an int holds.
func TestBlocksOfWrongSizes(t *testing.T) {
	for _, w := range someWidths {
		for _, wrong := range wrongSizes(w) {
			for _, other := range append([]int{0, 1, 5, most(w), -wrong}, wrongSizes(w)...) {
				checkBlocks(t, w, wrong, other, 0, api.ErrSize)
				checkBlocks(t, w, other, wrong, 0, api.ErrSize)
			}
		}
		checkBlocks(t, w, most(w), 1, 0, api.ErrSize)
		checkBlocks(t, w, 1, most(w), 0, api.ErrSize)
		checkBlocks(t, w, most(w)+1, -1, 0, api.ErrSize)
		checkBlocks(t, w, -1, most(w)+1, 0, api.ErrSize)
		checkBlocks(t, w, math.MaxInt, math.MaxInt, 0, api.ErrSize)
		checkBlocks(t, w, math.MinInt, math.MinInt, 0, api.ErrSize)
	}
}

// P7.1, P7.2, P7.3: of a width that is none ErrConf is told, whatever else is wrong.
func TestWrongWidths(t *testing.T) {
	numbers := append([]int{-2, -1, 0, 1, 2, 8, 9, 15, 16}, farNumbers...)
	for _, w := range wrongWidths {
		for _, n := range numbers {
			checkBlocks(t, w, n, 0, 0, api.ErrConf)
			checkBlocks(t, w, 0, n, 0, api.ErrConf)
			checkLargest(t, w, n, 0)
			for _, i := range numbers {
				checkPlace(t, w, n, i, spot{}, api.ErrConf)
				checkBack(t, w, n, spot{i, 1}, 0, api.ErrConf)
				checkBack(t, w, n, spot{-1, i}, 0, api.ErrConf)
				checkFull(t, w, n, i, 0)
			}
		}
	}
	for w := api.LeastW; w <= api.MaxW; w++ {
		checkBlocks(t, w, 0, 0, 1, api.OK)
	}
}

// P7.2, P7.3: of a number of fields that no object has ErrSize is told, whether there was such a field or not.
func TestWrongFields(t *testing.T) {
	for _, w := range someWidths {
		for _, n := range wrongSizes(w) {
			for _, i := range append([]int{-2, -1, 0, 1, 8, w - 1, w, n - 1, n}, farNumbers...) {
				checkPlace(t, w, n, i, spot{}, api.ErrSize)
				checkBack(t, w, n, spot{i, 1}, 0, api.ErrSize)
				checkBack(t, w, n, spot{-1, i}, 0, api.ErrSize)
				checkBack(t, w, n, spot{0, i}, 0, api.ErrSize)
				checkFull(t, w, n, i, 0)
			}
		}
	}
}

// holdAll holds each field's place, each place's field and how many there are against fields that are put down by hand.
func holdAll(t *testing.T, w, fields int) {
	t.Helper()
	l := laid(w, fields)
	field, full := map[spot]int{}, map[int]int{}
	for i, s := range l {
		checkPlace(t, w, fields, i, s, api.OK)
		field[s] = i
		full[s.leaf]++
	}
	for _, i := range append([]int{-2, -1, fields, fields + 1}, farNumbers...) {
		checkPlace(t, w, fields, i, spot{}, api.ErrIndex)
	}
	for leaf := -3; leaf <= w; leaf++ {
		checkFull(t, w, fields, leaf, full[leaf])
		for at := -2; at <= w+8; at++ {
			if i, ok := field[spot{leaf, at}]; ok {
				checkBack(t, w, fields, spot{leaf, at}, i, api.OK)
			} else {
				checkBack(t, w, fields, spot{leaf, at}, 0, api.ErrIndex)
			}
		}
	}
	if len(field) != fields {
		t.Errorf("%d fields of the width %d are put down at %d places", fields, w, len(field))
	}
}

// P7.2, P7.3: all numbers of fields of the two least widths, all places around them.
func TestAllOfLeastWidths(t *testing.T) {
	for w := api.LeastW; w <= api.LeastW+1; w++ {
		for fields := range most(w) + 1 {
			holdAll(t, w, fields)
		}
	}
}

// P7.2, P7.3: numbers of fields at their ends, of other widths.
func TestEdgesOfWidths(t *testing.T) {
	for _, w := range []int{18, 31, 32, 64} {
		for _, fields := range edges(w) {
			holdAll(t, w, fields)
		}
	}
	for _, w := range []int{127, 255, 256} {
		for _, fields := range []int{0, 1, w - 8, w - 7, w - 1, w, 5 * (w - 1), most(w) - 1, most(w)} {
			holdAll(t, w, fields)
		}
	}
}

// P7.2, P7.3: leaves and words that are far from all that there are, some of which would be there by a product that goes round.
func TestFarPlaces(t *testing.T) {
	for _, w := range someWidths {
		for _, fields := range []int{0, 1, w - 8, w - 7, w, most(w)} {
			for _, far := range append([]int{1 << 60, 1 << 61, -1 << 60, math.MaxInt / (w - 1), math.MinInt / (w - 1)}, farNumbers...) {
				checkFull(t, w, fields, far, 0)
				for _, at := range append([]int{-1, 0, 1, 8, w - 1, w}, farNumbers...) {
					checkBack(t, w, fields, spot{far, at}, 0, api.ErrIndex)
				}
				for _, leaf := range []int{-2, -1, 0, 1, w - 9} {
					checkBack(t, w, fields, spot{leaf, far}, 0, api.ErrIndex)
				}
			}
		}
	}
}

// P7.3: so many fields just fit so many blocks, and one more fits no more; of other numbers of blocks there is no object.
func TestLargest(t *testing.T) {
	for w := api.LeastW; w <= api.MaxW; w++ {
		for blocks := 1; blocks <= w-7; blocks++ {
			want := (blocks - 1) * (w - 1)
			if blocks == 1 {
				want = w - 8
			}
			checkLargest(t, w, blocks, want)
			checkBlocks(t, w, want, 0, blocks, api.OK)
			if blocks < w-7 {
				checkBlocks(t, w, want, 1, blocks+1, api.OK)
			} else {
				checkBlocks(t, w, want, 1, 0, api.ErrSize)
			}
		}
		for _, blocks := range append([]int{-2, -1, 0, w - 6, w - 5, w, 2 * w}, farNumbers...) {
			checkLargest(t, w, blocks, 0)
		}
	}
}

// P7.4: by the calls alone: each field lies at one place, no two at the same one, each place tells its field, and all are all.
func TestEachFieldAtOnePlace(t *testing.T) {
	for _, w := range someWidths {
		for _, fields := range edges(w) {
			seen := map[spot]bool{}
			for i := range fields {
				leaf, at, err := shape.Place(w, fields, i)
				s := spot{leaf, at}
				if err != api.OK || seen[s] || at < 1 || at >= w || leaf == -1 && at < api.Head {
					t.Fatalf("Place(%d, %d, %d) = %v, %d: there is no such word, or it's another field's", w, fields, i, s, err)
				}
				seen[s] = true
				checkBack(t, w, fields, s, i, api.OK)
			}
			blocks, err := shape.Blocks(w, 0, fields)
			sum := 0
			for leaf := -1; leaf < blocks-1; leaf++ {
				sum += shape.Full(w, fields, leaf)
			}
			if err != api.OK || sum != fields {
				t.Errorf("%d fields of the width %d: %d lie in the head and the leaves, %d", fields, w, sum, err)
			}
			if blocks > 1 && shape.Full(w, fields, blocks-2) == 0 {
				t.Errorf("%d fields of the width %d: nothing lies in the last leaf", fields, w)
			}
			checkFull(t, w, fields, blocks-1, 0)
		}
	}
}

// P7.4: one field more never takes fewer blocks, nor more than one leaf more.
func TestOneFieldMore(t *testing.T) {
	for w := api.LeastW; w <= api.MaxW; w++ {
		last := 1
		for n := range most(w) + 1 {
			blocks, err := shape.Blocks(w, n/2, n-n/2)
			if err != api.OK || blocks < last || blocks > last+1 {
				t.Fatalf("%d fields of the width %d: %d blocks, %d; one less: %d", n, w, blocks, err, last)
			}
			last = blocks
		}
		if last != w-7 {
			t.Errorf("the most fields of the width %d are of %d blocks", w, last)
		}
	}
}
