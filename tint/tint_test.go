package tint_test

import (
	"math"
	"slices"
	"testing"

	"quitrent/api"
	"quitrent/ground"
	"quitrent/obj"
	"quitrent/pool"
	"quitrent/ring"
	"quitrent/shape"
	"quitrent/tint"
)

// small is a configuration whose words are soon compared; some has room for more objects. No two of a configuration's numbers are one.
var (
	small = api.Conf{N: 6, W: 16, R: 3, K: 2}
	some  = api.Conf{N: 40, W: 18, R: 5, K: 2}
)

// confs are configurations with one block, with the least width, with the greatest and with some between.
var confs = []api.Conf{{N: 1, W: 16, R: 1, K: 3}, small, some, {N: 260, W: 256, R: 7, K: 65536}}

// bound is how many accesses a call makes at most.
const bound = 32

// most is the greatest number that a word can hold.
const most = math.MaxUint32

// The bits of the marks in a tag's word.
const (
	color = 2 + iota
	count
	shade
	dead
	inRing
)

// edges are numbers at which a word, a number with a sign or one of fewer bits would go round, and some beside them.
var edges = []int{0, 1, 2, 3, 255, 256, 65535, 65536, math.MaxInt32 - 1, math.MaxInt32, math.MaxInt32 + 1, most - 1, most}

// far are numbers that no word holds, or that are far from all that there is; some would be right, if they went round or were cut to fewer bits.
var far = []int{math.MinInt, math.MinInt + 1, math.MinInt + 2, -1 << 62, -1 << 32, -1<<32 + 1, math.MinInt32, -1000, -1, 1 << 32, 1<<32 + 1, 1<<32 + 2, 1<<32 + 3, 1 << 50, 1 << 60, 1 << 62, math.MaxInt - 1, math.MaxInt}

// kept is a ground with an opened pool, and beside it what has to stand in it: all words, the objects' references, and the ring.
type kept struct {
	g     *ground.Ground
	c     api.Conf
	words []uint32
	refs  []int
	ring  []int
}

// open answers a ground with an opened pool. Its blocks' words are some that are not 0, but for tags and the pool's links; so are its root slots, and the registers from 16 on.
func open(t *testing.T, c api.Conf) *kept {
	t.Helper()
	g, err := ground.New(c)
	if err != api.OK || !pool.Open(g) {
		t.Fatalf("%v: %d", c, err)
	}
	k := &kept{g: g, c: c}
	for b := range c.N {
		for w := range c.W {
			if w != 0 && w != 5 {
				g.SetWord(b, w, uint32(b*c.W+w)*2654435761|1)
			}
		}
	}
	for i := range c.R {
		g.SetRoot(i, 70+i)
	}
	for r := 16; r < 24; r++ {
		g.SetReg(r, 500+r)
	}
	k.words = g.Words()
	return k
}

// make answers a new object's reference. The words of its head that tell nothing of an epoch, and its fields, are some that are not 0.
func (k *kept) make(t *testing.T, nptr, ndata int) int {
	t.Helper()
	r, err := obj.Make(k.g, nptr, ndata)
	if err != api.OK {
		t.Fatalf("%v: Make(%d, %d): %d", k.c, nptr, ndata, err)
	}
	for i := range nptr {
		obj.SetPtr(k.g, r, i, (r+i)%(k.c.N+1))
	}
	for i := range ndata {
		obj.SetData(k.g, r, i, uint32(r+i)*2246822519|1)
	}
	k.g.SetWord(r-1, 3, uint32(r)*31+7)
	k.words = k.g.Words()
	k.refs = append(k.refs, r)
	return r
}

// some makes objects of one block, of a head and one leaf, of a head and many, as far as there is room, and answers their references.
func (k *kept) some(t *testing.T) []int {
	t.Helper()
	for _, n := range [][2]int{{0, 0}, {3, 2}, {k.c.W - 8, 1}, {0, 3 * k.c.W}, {1, 1}} {
		if blocks, err := shape.Blocks(k.c.W, n[0], n[1]); err == api.OK && blocks <= pool.Len(k.g) {
			k.make(t, n[0], n[1])
		}
	}
	return slices.Clone(k.refs)
}

// at is where in the store a word of a block has to be.
func (k *kept) at(b, w int) int {
	return 24 + k.c.R + b*k.c.W + w
}

// is tells whether r has to be an object's reference.
func (k *kept) is(r int) bool {
	return slices.Contains(k.refs, r)
}

// mark answers what a mark of an object has to be.
func (k *kept) mark(r, bit int) uint32 {
	return k.words[k.at(r-1, 0)] >> bit & 1
}

// setMark says what a mark of an object has to be.
func (k *kept) setMark(r, bit int, v uint32) {
	w := &k.words[k.at(r-1, 0)]
	*w = *w&^(1<<bit) | v<<bit
}

// black tells whether an object has to be black.
func (k *kept) black(r int) bool {
	return k.mark(r, color) == k.words[10]
}

// shadow answers what an object's shadow has to be.
func (k *kept) shadow(r int) uint32 {
	if k.mark(r, shade) != k.words[10] {
		return 0
	}
	return k.words[k.at(r-1, 4)]
}

// wasCounted tells whether a field of an object has to have been counted.
func (k *kept) wasCounted(r, i int) bool {
	if !k.is(r) || i < 0 {
		return false
	}
	byCursor := k.words[11] == api.Counting && int(k.words[12]) == r-1 && i < int(k.words[13])
	return k.mark(r, count) == k.words[10] || byCursor
}

// join says that a block has to stand behind all others in the ring.
func (k *kept) join(b int) {
	if slices.Contains(k.ring, b) {
		return
	}
	k.setMark(b+1, inRing, 1)
	k.words[k.at(b, 6)], k.words[k.at(b, 7)] = k.words[8], 0
	if len(k.ring) == 0 {
		k.words[7] = uint32(b + 1)
	} else {
		k.words[k.at(k.ring[len(k.ring)-1], 7)] = uint32(b + 1)
	}
	k.words[8] = uint32(b + 1)
	k.words[9]++
	k.ring = append(k.ring, b)
}

// set puts an object into a state by its words: its marks but the ring's, and its word 4.
func (k *kept) set(r int, marks, shadow uint32) {
	tag := k.g.SeeWord(r-1, 0)&^(15<<2) | marks&15<<2
	k.g.SetWord(r-1, 0, tag)
	k.g.SetWord(r-1, 4, shadow)
	k.words[k.at(r-1, 0)], k.words[k.at(r-1, 4)] = tag, shadow
}

// epoch puts the parity, the phase, the cursor and its field by their registers; the registers of what is scanned are not 0.
func (k *kept) epoch(parity, phase, c, f int) {
	for i, v := range []int{parity, phase, c, f, 33, 44} {
		k.g.SetReg(10+i, v)
		k.words[10+i] = uint32(v)
	}
}

// check tells where the words are others than they should be, or a call tells what they don't say.
func (k *kept) check(t *testing.T, name string) {
	t.Helper()
	if got := k.g.Words(); !slices.Equal(got, k.words) {
		for i := range got {
			if got[i] != k.words[i] {
				t.Fatalf("%v, %s: the word %d of the store is %d, not %d", k.c, name, i, got[i], k.words[i])
			}
		}
	}
	for _, r := range k.refs {
		k.checkObject(t, name, r)
	}
}

// checkObject tells where a call tells of an object what its words don't say.
func (k *kept) checkObject(t *testing.T, name string, r int) {
	t.Helper()
	if got, want := tint.Black(k.g, r), k.black(r); got != want {
		t.Fatalf("%v, %s: Black of %d: %v", k.c, name, r, got)
	}
	if got, want := tint.Dead(k.g, r), k.mark(r, dead) == 1; got != want {
		t.Fatalf("%v, %s: Dead of %d: %v", k.c, name, r, got)
	}
	if got, want := tint.Shadow(k.g, r), int(k.shadow(r)); got != want {
		t.Fatalf("%v, %s: Shadow of %d: %d, not %d", k.c, name, r, got, want)
	}
	for i := range 4 {
		if got, want := tint.Counted(k.g, r, i), k.wasCounted(r, i); got != want {
			t.Fatalf("%v, %s: Counted of %d, %d: %v", k.c, name, r, i, got)
		}
	}
}

// metered does a call, and tells where it makes more accesses than it may.
func (k *kept) metered(t *testing.T, name string, call func()) {
	t.Helper()
	ahead := k.g.Meter()
	call()
	if n := k.g.Meter() - ahead; n > bound {
		t.Errorf("%v, %s: %d accesses, more than %d", k.c, name, n, bound)
	}
}

// did does a call that has to answer want, and checks all words behind it.
func (k *kept) did(t *testing.T, name string, r int, want bool, call func() bool) {
	t.Helper()
	var ok bool
	k.metered(t, name, func() { ok = call() })
	if ok != want {
		t.Fatalf("%v: %s of %d: %v, with the word %d, epoch %v", k.c, name, r, ok, k.g.SeeWord(r-1, 0), k.words[10:16])
	}
	k.check(t, name)
}

func (k *kept) dye(t *testing.T, r int) {
	t.Helper()
	ok := k.is(r)
	if ok {
		for _, bit := range []int{color, count, shade} {
			k.setMark(r, bit, k.words[10])
		}
		k.words[k.at(r-1, 4)] = 0
	}
	k.did(t, "Dye", r, ok, func() bool { return tint.Dye(k.g, r) })
}

func (k *kept) paint(t *testing.T, r int) {
	t.Helper()
	ok := k.is(r)
	if ok {
		k.setMark(r, color, k.words[10])
	}
	k.did(t, "Paint", r, ok, func() bool { return tint.Paint(k.g, r) })
}

func (k *kept) done(t *testing.T, r int) {
	t.Helper()
	ok := k.is(r)
	if ok {
		k.setMark(r, count, k.words[10])
	}
	k.did(t, "Done", r, ok, func() bool { return tint.Done(k.g, r) })
}

func (k *kept) kill(t *testing.T, r int) {
	t.Helper()
	ok := k.is(r) && k.mark(r, dead) == 0
	if ok {
		k.setMark(r, dead, 1)
	}
	k.did(t, "Kill", r, ok, func() bool { return tint.Kill(k.g, r) })
}

func (k *kept) touch(t *testing.T, r int) {
	t.Helper()
	ok := k.words[11] != api.Idle && k.is(r) && k.mark(r, dead) == 0 && !k.black(r)
	if ok {
		k.setMark(r, color, k.words[10])
		k.join(r - 1)
	}
	k.did(t, "Touch", r, ok, func() bool { return tint.Touch(k.g, r) })
}

func (k *kept) deepen(t *testing.T, r int) {
	t.Helper()
	ok := k.is(r) && k.shadow(r) < most
	if ok {
		k.words[k.at(r-1, 4)] = k.shadow(r) + 1
		k.setMark(r, shade, k.words[10])
	}
	k.did(t, "Deepen", r, ok, func() bool { return tint.Deepen(k.g, r) })
}

func (k *kept) lighten(t *testing.T, r int) {
	t.Helper()
	ok := (k.words[11] == api.Counting || k.words[11] == api.Flooding) && k.is(r) && !k.black(r) && k.shadow(r) > 0
	if ok {
		k.words[k.at(r-1, 4)]--
	}
	k.did(t, "Lighten", r, ok, func() bool { return tint.Lighten(k.g, r) })
}

func (k *kept) turn(t *testing.T) {
	t.Helper()
	k.words[10] = 1 - k.words[10]
	k.did(t, "Turn", 0, true, func() bool { tint.Turn(k.g); return true })
}

func (k *kept) begin(t *testing.T, phase int) {
	t.Helper()
	ok := phase >= 0 && phase <= 3
	if ok {
		copy(k.words[11:], []uint32{uint32(phase), 0, 0, 0, 0})
	}
	k.did(t, "Begin", phase, ok, func() bool { return tint.Begin(k.g, phase) })
}

func (k *kept) move(t *testing.T, c, f int) {
	t.Helper()
	ok := c >= 0 && c <= most && f >= 0 && f <= most
	if ok {
		k.words[12], k.words[13] = uint32(c), uint32(f)
	}
	k.did(t, "Move", c, ok, func() bool { return tint.Move(k.g, c, f) })
}

// counted asks whether a field was counted, and tells where the answer isn't what it has to be.
func (k *kept) counted(t *testing.T, r, i int) {
	t.Helper()
	var ok bool
	k.metered(t, "Counted", func() { ok = tint.Counted(k.g, r, i) })
	if ok != k.wasCounted(r, i) {
		t.Fatalf("%v: Counted of %d, %d: %v, with the word %d, epoch %v", k.c, r, i, ok, k.g.SeeWord(r-1, 0), k.words[10:16])
	}
}

// changes are all calls that change an object.
func (k *kept) changes() []func(*testing.T, int) {
	return []func(*testing.T, int){k.dye, k.paint, k.done, k.kill, k.touch, k.deepen, k.lighten}
}

// isNone tells where a call takes r for an object's reference.
func (k *kept) isNone(t *testing.T, r int) {
	t.Helper()
	for _, call := range k.changes() {
		call(t, r)
	}
	for _, i := range []int{-1, 0, 1, most} {
		k.counted(t, r, i)
	}
	if tint.Black(k.g, r) || tint.Dead(k.g, r) || tint.Shadow(k.g, r) != 0 {
		t.Errorf("%v: of %d: Black %v, Dead %v, Shadow %d", k.c, r, tint.Black(k.g, r), tint.Dead(k.g, r), tint.Shadow(k.g, r))
	}
}

// P13.1, P13.2, P13.3: the chapter's example.
func TestExample(t *testing.T) {
	g, err := ground.New(api.Conf{N: 2, W: 16, R: 1, K: 1})
	if err != api.OK || !pool.Open(g) {
		t.Fatal(err)
	}
	r, _ := obj.Make(g, 1, 1)
	if !tint.Dye(g, r) || !tint.Black(g, r) {
		t.Error("dyed, but not black")
	}
	tint.Turn(g)
	if !tint.Begin(g, api.Counting) || tint.Black(g, r) || tint.Shadow(g, r) != 0 {
		t.Error("black behind a turn")
	}
	if !tint.Deepen(g, r) || !tint.Deepen(g, r) || !tint.Lighten(g, r) || tint.Shadow(g, r) != 1 {
		t.Error("shadow:", tint.Shadow(g, r))
	}
	if !tint.Touch(g, r) || tint.Touch(g, r) || !tint.Black(g, r) || !slices.Equal(ring.List(g), []int{0}) {
		t.Error("touched, but the ring is", ring.List(g))
	}
}

// P13.1: the parity, the phase, the cursor and its field are the registers from 10 to 13.
func TestRegisters(t *testing.T) {
	for _, c := range confs {
		k := open(t, c)
		if c, f := tint.At(k.g); tint.Parity(k.g) != 0 || tint.Phase(k.g) != api.Idle || c != 0 || f != 0 {
			t.Errorf("new: %d, %d, %d, %d", tint.Parity(k.g), tint.Phase(k.g), c, f)
		}
		for parity := range 2 {
			for phase := range 4 {
				for _, n := range edges {
					k.epoch(parity, phase, n, most-n)
					k.metered(t, "Parity", func() { tint.Parity(k.g) })
					k.metered(t, "Phase", func() { tint.Phase(k.g) })
					k.metered(t, "At", func() { tint.At(k.g) })
					if c, f := tint.At(k.g); tint.Parity(k.g) != parity || tint.Phase(k.g) != phase || c != n || f != most-n {
						t.Errorf("%d, %d, %d, %d", tint.Parity(k.g), tint.Phase(k.g), c, f)
					}
				}
			}
		}
		k.check(t, "asked")
	}
}

// P13.1: Turn makes the parity the other one, and nothing else, in any phase.
func TestTurn(t *testing.T) {
	for _, c := range confs {
		k := open(t, c)
		k.some(t)
		for phase := range 4 {
			k.epoch(phase%2, phase, 5, 6)
			for i := range 5 {
				k.turn(t)
				if got := tint.Parity(k.g); got != (phase+i+1)%2 {
					t.Errorf("%v: parity %d", c, got)
				}
			}
		}
	}
}

// P13.1: Begin of each phase, behind each other one; the registers 12 to 15 are 0 then. Of a number that is no phase nothing is done.
func TestBegin(t *testing.T) {
	k := open(t, small)
	k.some(t)
	for _, phase := range append([]int{-2, -1, 0, 1, 2, 3, 4, 5, 255, 256, 257, math.MaxInt32, most}, far...) {
		for ahead := range 4 {
			for parity := range 2 {
				k.epoch(parity, ahead, 11, 22)
				k.begin(t, phase)
				if c, f := tint.At(k.g); phase >= 0 && phase < 4 && (tint.Phase(k.g) != phase || c != 0 || f != 0) {
					t.Errorf("Begin of %d: the phase %d, the cursor %d, %d", phase, tint.Phase(k.g), c, f)
				}
			}
		}
	}
}

// P13.1: Move to each edge of a word; where one of both may not be, neither is set.
func TestMove(t *testing.T) {
	k := open(t, small)
	k.some(t)
	all := slices.Concat(edges, far)
	for _, c := range all {
		for _, f := range all {
			k.epoch(1, api.Flooding, 11, 22)
			k.move(t, c, f)
		}
	}
	k.move(t, 4, 9)
	if c, f := tint.At(k.g); c != 4 || f != 9 {
		t.Errorf("At: %d, %d", c, f)
	}
}

// P13.2, P13.3: each call at each set of marks, at each parity, in each phase, at several shadows: answers and all words.
func TestAllMarks(t *testing.T) {
	for marks := range uint32(16) {
		for _, standing := range []bool{false, true} {
			k := open(t, small)
			other, r, spine := k.make(t, 1, 1), k.make(t, 2, 1), k.make(t, 3, 9)
			if standing {
				for _, r := range []int{other, r, spine} {
					ring.Add(k.g, r-1)
					k.ring = append(k.ring, r-1)
				}
				k.words = k.g.Words()
			}
			start := k.g.Words()
			row := slices.Clone(k.ring)
			for n := range 2 * 4 * len(edges) {
				for _, r := range []int{r, spine} {
					for call := range k.changes() {
						k.g.Load(start)
						k.words, k.ring = slices.Clone(start), slices.Clone(row)
						k.set(r, marks, uint32(edges[n/8]))
						k.epoch(n%2, n/2%4, r-1, 2)
						k.changes()[call](t, r)
					}
				}
			}
		}
	}
}

// P13.3: which fields were counted: by the mark, or by the cursor, in the phase Counting alone, at the object's head alone, below the cursor's field.
func TestCounted(t *testing.T) {
	k := open(t, small)
	r := k.make(t, 4, 1)
	fields := []int{math.MinInt, -1 << 32, -2, -1, 0, 1, 2, 3, 4, 5, 16, math.MaxInt32, most - 1, most, most + 1, math.MaxInt}
	for marks := range uint32(16) {
		k.set(r, marks, 3)
		for _, c := range []int{0, r - 2, r - 1, r, r + 1, k.c.N, most} {
			for _, f := range []int{0, 1, 2, 4, 5, most} {
				for n := range 8 {
					k.epoch(n%2, n/2, max(c, 0), f)
					for _, i := range fields {
						k.counted(t, r, i)
					}
				}
			}
		}
	}
	k.check(t, "asked")
}

// P13.3: that the cursor is in the block 0 says nothing of what is no object.
func TestCountedOfNone(t *testing.T) {
	k := open(t, small)
	for parity := range 2 {
		k.epoch(parity, api.Counting, 0, 5)
		for _, r := range append([]int{0, 1, 2}, far...) {
			k.counted(t, r, 0)
		}
		k.epoch(parity, api.Counting, most, 5)
		k.counted(t, 0, 0)
		k.counted(t, most+1, 0)
	}
}

// P13.3: shadows rise and fall by one; a mark of another epoch is a shadow of 0, whatever stands in the word 4; none falls below 0.
func TestShadows(t *testing.T) {
	for _, c := range confs {
		k := open(t, c)
		r := k.some(t)[0]
		k.dye(t, r)
		k.turn(t)
		k.begin(t, api.Counting)
		k.lighten(t, r)
		k.set(r, 0, 99)
		k.check(t, "a shadow of another epoch")
		k.lighten(t, r)
		for range 3 {
			k.deepen(t, r)
		}
		if n := tint.Shadow(k.g, r); n != 3 {
			t.Errorf("%v: shadow %d", c, n)
		}
		k.begin(t, api.Flooding)
		for range 4 {
			k.lighten(t, r)
		}
		if n := tint.Shadow(k.g, r); n != 0 {
			t.Errorf("%v: shadow %d", c, n)
		}
		k.deepen(t, r)
		for _, phase := range []int{api.Idle, api.Reaping} {
			k.begin(t, phase)
			k.lighten(t, r)
		}
		k.begin(t, api.Counting)
		k.paint(t, r)
		k.lighten(t, r)
	}
}

// P13.3: no shadow goes round; the greatest one is as far as it gets.
func TestGreatestShadow(t *testing.T) {
	k := open(t, small)
	r := k.make(t, 1, 1)
	for parity := range 2 {
		k.epoch(parity, api.Counting, 0, 0)
		k.set(r, uint32(15*parity), most-1)
		k.deepen(t, r)
		k.deepen(t, r)
		if n := tint.Shadow(k.g, r); n != most {
			t.Errorf("shadow %d", n)
		}
		k.set(r, uint32(15*(1-parity)), most)
		k.deepen(t, r)
		if n := tint.Shadow(k.g, r); n != 1 {
			t.Errorf("the first of this epoch: shadow %d", n)
		}
	}
}

// P13.2: in the phase Idle nobody is touched; in each other one each object that is neither dead nor black, once.
func TestTouch(t *testing.T) {
	for _, c := range confs {
		for phase := range 4 {
			k := open(t, c)
			l := k.some(t)
			k.turn(t)
			k.begin(t, phase)
			slices.Reverse(l)
			for range 2 {
				for _, r := range l {
					k.touch(t, r)
				}
			}
			want := len(l)
			if phase == api.Idle {
				want = 0
			}
			if n := ring.Len(k.g); n != want || !slices.Equal(ring.List(k.g), k.ring) {
				t.Errorf("%v, the phase %d: ring %v, not %v", c, phase, ring.List(k.g), k.ring)
			}
		}
	}
}

// P13.2: who is dead isn't touched, nor killed again; it is dyed, painted and counted as others are, and stays dead.
func TestDead(t *testing.T) {
	for _, c := range confs {
		k := open(t, c)
		l := k.some(t)
		k.turn(t)
		k.begin(t, api.Counting)
		for _, r := range l {
			k.kill(t, r)
			k.kill(t, r)
			k.touch(t, r)
			for _, call := range k.changes() {
				call(t, r)
			}
			if !tint.Dead(k.g, r) {
				t.Errorf("%v: %d is not dead any more", c, r)
			}
		}
		if n := ring.Len(k.g); n != 0 {
			t.Errorf("%v: %d dead ones stand in the ring", c, n)
		}
	}
}

// P13.2, P13.3: what is no object's reference: that of a leaf, of a clean block, of one that was taken alone, of one that was ended, of none. Nothing is done.
func TestNone(t *testing.T) {
	for _, c := range []api.Conf{{N: 12, W: 16, R: 2, K: 1}, some} {
		for n := range 8 {
			k := open(t, c)
			alone, _ := pool.Take(k.g)
			k.g.SetWord(alone, 4, 5)
			k.make(t, 3, 2*c.W)
			ended := k.make(t, 2, 2)
			k.make(t, 1, 1)
			k.set(ended, 15, 9)
			obj.End(k.g, ended)
			k.refs = slices.DeleteFunc(k.refs, func(r int) bool { return r == ended })
			k.words = k.g.Words()
			for r := -2; r <= c.N+3; r++ {
				if !k.is(r) {
					k.epoch(n%2, n/2, max(r-1, 0), 5)
					k.isNone(t, r)
				}
			}
			for _, r := range append([]int{1 << 20, 1<<20 + 1, math.MaxInt32}, far...) {
				k.isNone(t, r)
			}
		}
	}
}

// P13.2, P13.3: a block is an object's head just by its kind, whatever else stands in its first word; what isn't a mark of this layer stays.
func TestOtherBits(t *testing.T) {
	k := open(t, small)
	for pool.Len(k.g) > 0 {
		pool.Take(k.g)
	}
	for kind := range uint32(4) {
		for _, other := range []uint32{0, 15 << 2, 1 << 7, 3 << 8, 1 << 31, math.MaxUint32 &^ (3 | 1<<inRing)} {
			for n := range 8 {
				for call := range k.changes() {
					k.g.Load(make([]uint32, len(k.words)))
					k.g.SetWord(3, 0, kind|other)
					k.words, k.refs, k.ring = k.g.Words(), nil, nil
					if kind == api.Small || kind == api.Spine {
						k.refs = []int{4}
					}
					k.epoch(n%2, n/2, 3, 1)
					k.changes()[call](t, 4)
				}
			}
		}
	}
}

// P13.1, P13.2, P13.3: of a nil ground there is nothing.
func TestNilGround(t *testing.T) {
	tint.Turn(nil)
	if c, f := tint.At(nil); tint.Parity(nil) != 0 || tint.Phase(nil) != 0 || c != 0 || f != 0 {
		t.Errorf("%d, %d, %d, %d", tint.Parity(nil), tint.Phase(nil), c, f)
	}
	for _, n := range append([]int{-1, 0, 1, 2, 3, 4}, far...) {
		if tint.Begin(nil, n) || tint.Move(nil, n, 0) || tint.Move(nil, 0, n) || tint.Shadow(nil, n) != 0 || tint.Counted(nil, n, 0) || tint.Counted(nil, 1, n) {
			t.Errorf("a register, or a field, of %d", n)
		}
		for i, call := range []func(*ground.Ground, int) bool{tint.Dye, tint.Black, tint.Paint, tint.Touch, tint.Dead, tint.Kill, tint.Deepen, tint.Lighten, tint.Done} {
			if call(nil, n) {
				t.Errorf("the call %d, of %d", i, n)
			}
		}
	}
}

// P13.4: as many blocks as there may be, and a ring of all of them: no call gets longer by it.
func TestAccesses(t *testing.T) {
	for _, c := range []api.Conf{{N: 262144, W: 16, R: 4096, K: 1}, {N: 16384, W: 256, R: 1, K: 65536}} {
		k := open(t, c)
		for range c.N {
			obj.Make(k.g, 1, 1)
		}
		tint.Turn(k.g)
		tint.Begin(k.g, api.Counting)
		l := []int{1, 2, c.N / 2, c.N - 1, c.N}
		for _, r := range l {
			k.meteredAll(t, r)
		}
		for r := 3; r < c.N-1; r++ {
			k.metered(t, "Touch", func() { tint.Touch(k.g, r) })
		}
		if n := ring.Len(k.g); n != c.N {
			t.Errorf("%v: %d are touched", c, n)
		}
		for _, r := range l {
			k.meteredAll(t, r)
		}
	}
}

// meteredAll does each call of an object, and tells where it makes too many accesses.
func (k *kept) meteredAll(t *testing.T, r int) {
	t.Helper()
	for i, call := range []func(*ground.Ground, int) bool{tint.Dead, tint.Black, tint.Touch, tint.Deepen, tint.Lighten, tint.Dye, tint.Paint, tint.Done, tint.Touch, tint.Lighten} {
		ahead := k.g.Meter()
		call(k.g, r)
		if n := k.g.Meter() - ahead; n > bound || n == 0 {
			t.Errorf("%v, the call %d of %d: %d accesses", k.c, i, r, n)
		}
	}
	for _, call := range []func(){
		func() { tint.Shadow(k.g, r) }, func() { tint.Counted(k.g, r, 0) }, func() { tint.Move(k.g, r-1, 1) },
		func() { tint.Begin(k.g, api.Flooding) }, func() { tint.Begin(k.g, api.Counting) }, func() { tint.Turn(k.g) }, func() { tint.Turn(k.g) },
	} {
		k.metered(t, "a call", call)
	}
}

// P13.4, and the document's P8: how many accesses there are hangs on no word of an object, and on no place of it.
func TestAccessesOfAnyObject(t *testing.T) {
	var want []uint64
	for seed := range 6 {
		k := open(t, some)
		for range seed {
			k.make(t, seed, 3)
		}
		r := k.make(t, 3, 20)
		for i := range 20 {
			obj.SetData(k.g, r, i, uint32(i*seed)*2654435761)
		}
		k.words = k.g.Words()
		k.turn(t)
		k.begin(t, api.Counting)
		var got []uint64
		for _, call := range []func(*ground.Ground, int) bool{tint.Black, tint.Deepen, tint.Lighten, tint.Touch, tint.Touch, tint.Done, tint.Dye, tint.Paint, tint.Kill, tint.Kill} {
			ahead := k.g.Meter()
			call(k.g, r)
			got = append(got, k.g.Meter()-ahead)
		}
		if want == nil {
			want = got
		}
		if !slices.Equal(got, want) {
			t.Errorf("accesses %v, and %v", got, want)
		}
	}
}

// P13.5: behind a Turn no object is black that was, none was counted, and all shadows are 0; also epoch by epoch.
func TestBehindATurn(t *testing.T) {
	for _, c := range confs {
		k := open(t, c)
		l := k.some(t)
		for _, r := range l {
			k.dye(t, r)
		}
		for epoch := range 4 {
			k.turn(t)
			k.begin(t, api.Counting)
			for _, r := range l {
				if tint.Black(k.g, r) || tint.Shadow(k.g, r) != 0 || tint.Counted(k.g, r, 0) {
					t.Fatalf("%v, the epoch %d: %d is black, has a shadow, or was counted", c, epoch, r)
				}
			}
			for i, r := range l {
				for range i + epoch {
					k.deepen(t, r)
				}
				k.lighten(t, r)
				k.done(t, r)
				k.touch(t, r)
			}
			k.empty(t, l)
			for _, r := range l {
				if k.mark(r, shade) != k.words[10] {
					k.dye(t, r)
				}
				if !tint.Black(k.g, r) || !tint.Counted(k.g, r, 0) {
					t.Fatalf("%v, the epoch %d: %d is not black, or wasn't counted", c, epoch, r)
				}
			}
		}
	}
}

// empty takes all out of the ring, and tells where these are others, or stand there otherwise than once each.
func (k *kept) empty(t *testing.T, l []int) {
	t.Helper()
	for _, r := range l {
		if b, ok := ring.Take(k.g); b != r-1 || !ok {
			t.Fatalf("%v: the ring has %d, %v, not %d", k.c, b, ok, r-1)
		}
	}
	if b, ok := ring.Take(k.g); b != 0 || ok {
		t.Fatalf("%v: the ring has %d, too", k.c, b)
	}
	k.words, k.ring = k.g.Words(), nil
}

// P13.5: who stands in the ring from an epoch ahead stays there once, where it stood, when it is touched again.
func TestTouchedAgain(t *testing.T) {
	k := open(t, small)
	a, b, c := k.make(t, 0, 0), k.make(t, 1, 1), k.make(t, 0, 2)
	k.turn(t)
	k.begin(t, api.Flooding)
	k.touch(t, b)
	k.touch(t, a)
	k.dye(t, c)
	k.turn(t)
	for _, r := range []int{a, c, b, a, c, b} {
		k.touch(t, r)
	}
	if l := ring.List(k.g); !slices.Equal(l, []int{b - 1, a - 1, c - 1}) {
		t.Error("the ring:", l)
	}
	k.empty(t, []int{b, a, c})
	for _, r := range []int{a, b, c} {
		k.touch(t, r)
	}
	if n := ring.Len(k.g); n != 0 {
		t.Errorf("%d black ones stand in the ring", n)
	}
}

// P13.1, P13.2, P13.3: all held against plain words, over calls of all kinds and at any reference.
func TestAnyCalls(t *testing.T) {
	for _, c := range []api.Conf{{N: 1, W: 16, R: 1, K: 1}, small, {N: 14, W: 17, R: 3, K: 1}} {
		k, seed := open(t, c), uint32(c.N)
		next := func(bound int) int {
			seed = seed*1664525 + 1013904223
			return int(seed>>8) % bound
		}
		for range 6000 {
			k.anyCall(t, next)
		}
	}
}

// anyCall does some call, at some reference.
func (k *kept) anyCall(t *testing.T, next func(int) int) {
	t.Helper()
	r := next(k.c.N+3) - 1
	switch next(16) {
	case 0:
		if pool.Len(k.g) > 1 {
			k.make(t, next(k.c.W-8), next(9))
		}
	case 1:
		if k.is(r) && k.mark(r, inRing) == 0 && next(4) == 0 {
			obj.End(k.g, r)
			k.refs = slices.DeleteFunc(k.refs, func(x int) bool { return x == r })
			k.words = k.g.Words()
		}
	case 2:
		if len(k.ring) > 0 {
			ring.Take(k.g)
			k.words, k.ring = k.g.Words(), k.ring[1:]
		}
	case 3:
		k.turn(t)
	case 4:
		k.begin(t, next(6)-1)
	case 5:
		k.move(t, next(k.c.N+2)-1, next(6)-1)
	case 6:
		if next(3) == 0 && k.is(r) {
			k.set(r, k.g.SeeWord(r-1, 0)>>2&7, uint32(edges[next(len(edges))]))
		}
	case 7:
		k.counted(t, r, next(5)-1)
	default:
		k.changes()[next(7)](t, r)
	}
	k.check(t, "any call")
}

// P13.1, P13.2, P13.3: all that is known are the ground's words: on another ground with the same ones all goes on, access by access.
func TestWordsAreAll(t *testing.T) {
	k := open(t, some)
	l := k.some(t)
	k.turn(t)
	k.begin(t, api.Counting)
	for _, r := range l[:3] {
		k.touch(t, r)
		k.deepen(t, r)
	}
	other := open(t, some)
	if !other.g.Load(k.g.Words()) {
		t.Fatal("Load")
	}
	other.words, other.refs, other.ring = k.g.Words(), slices.Clone(k.refs), slices.Clone(k.ring)
	before := k.g.Words()
	ahead, otherAhead := k.g.Meter(), other.g.Meter()
	for _, r := range l {
		other.touch(t, r)
		other.deepen(t, r)
		other.lighten(t, r)
		other.kill(t, r)
	}
	if !slices.Equal(k.g.Words(), before) {
		t.Error("here something is changed")
	}
	spent := other.g.Meter() - otherAhead
	for _, r := range l {
		k.touch(t, r)
		k.deepen(t, r)
		k.lighten(t, r)
		k.kill(t, r)
	}
	if n := k.g.Meter() - ahead; n != spent || !slices.Equal(k.g.Words(), other.g.Words()) {
		t.Errorf("%d accesses, and %d", n, spent)
	}
}

// P13.4: where words were set otherwise nothing is promised but that each call ends, and is not long.
func TestSetOtherwise(t *testing.T) {
	values := []uint32{0, 1, 2, 3, 4, 9, 1 << 20, 1 << 31, most - 1, most}
	for _, parity := range values {
		for _, phase := range values {
			for _, word := range values {
				k := open(t, small)
				l := k.g.Words()
				for r := 7; r < 16; r++ {
					l[r] = word
				}
				l[10], l[11] = parity, phase
				for b := range k.c.N {
					l[k.at(b, 0)] = uint32(b) | word<<2
					for w := 1; w < 8; w++ {
						l[k.at(b, w)] = word
					}
				}
				if !k.g.Load(l) {
					t.Fatal("Load")
				}
				for r := range k.c.N + 2 {
					k.endsAll(t, r)
				}
			}
		}
	}
}

// endsAll does each call, and tells where one makes too many accesses.
func (k *kept) endsAll(t *testing.T, r int) {
	t.Helper()
	for _, call := range []func(*ground.Ground, int) bool{tint.Touch, tint.Lighten, tint.Deepen, tint.Black, tint.Dead, tint.Dye, tint.Paint, tint.Done, tint.Kill, tint.Touch} {
		k.metered(t, "a call", func() { call(k.g, r) })
	}
	k.metered(t, "Shadow", func() { tint.Shadow(k.g, r) })
	k.metered(t, "Counted", func() { tint.Counted(k.g, r, 0) })
	k.metered(t, "Turn", func() { tint.Turn(k.g) })
	k.metered(t, "Parity, Phase and At", func() { tint.Parity(k.g); tint.Phase(k.g); tint.At(k.g) })
}
