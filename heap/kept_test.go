package heap_test

import (
	"math"
	"slices"
	"testing"

	"quitrent/api"
	"quitrent/count"
	"quitrent/grave"
	"quitrent/ground"
	"quitrent/heap"
	"quitrent/link"
	"quitrent/obj"
	"quitrent/pace"
	"quitrent/plan"
	"quitrent/pool"
	"quitrent/shape"
)

// small is a configuration whose words are soon compared; some has room for more objects. No two of a configuration's numbers are one.
var (
	small = api.Conf{N: 9, W: 16, R: 4, K: 2}
	some  = api.Conf{N: 40, W: 18, R: 6, K: 7}
)

// confs are configurations with one block and one slot, with the least width, with the greatest and with some between.
var confs = []api.Conf{{N: 1, W: 16, R: 1, K: 3}, small, some, {N: 30, W: 256, R: 7, K: 65536}}

// most is the greatest number that a word can hold.
const most = math.MaxUint32

// The registers that calls of lower layers set.
const (
	cleans    = 2
	pendings  = 6
	phase     = 11
	suspicion = 16
	paid      = 19
)

// far are numbers that are far from all that there is; some would be right, if they went round or were cut to fewer bits.
var far = []int{math.MinInt, math.MinInt + 1, -1 << 62, -1 << 32, -1<<32 + 1, math.MinInt32, -1000, 1 << 20, math.MaxInt32, most, 1 << 32, 1<<32 + 1, 1 << 50, 1 << 62, math.MaxInt - 1, math.MaxInt}

// allocates, loads and so on are the operations of each kind, in the order of the calls' arguments.
func allocates(slot, nptr, ndata int) api.Op {
	return api.Op{Kind: api.OpAlloc, A: slot, B: nptr, C: ndata}
}

func loads(to, from, i int) api.Op { return api.Op{Kind: api.OpLoad, A: to, B: from, C: i} }

func stores(to, i, from int) api.Op { return api.Op{Kind: api.OpStore, A: to, B: i, C: from} }

func reads(slot, i int) api.Op { return api.Op{Kind: api.OpRead, A: slot, B: i} }

func writes(slot, i int, v uint32) api.Op {
	return api.Op{Kind: api.OpWrite, A: slot, B: i, V: v}
}

func copies(to, from int) api.Op { return api.Op{Kind: api.OpCopy, A: to, B: from} }

func drops(slot int) api.Op { return api.Op{Kind: api.OpDrop, A: slot} }

func sames(a, b int) api.Op { return api.Op{Kind: api.OpSame, A: a, B: b} }

func lens(slot int) api.Op { return api.Op{Kind: api.OpLen, A: slot} }

func ticks() api.Op { return api.Op{Kind: api.OpTick} }

// call does an operation on a heap, by the call of its kind.
func call(h *heap.Heap, o api.Op) api.Answer {
	var a api.Answer
	switch o.Kind {
	case api.OpAlloc:
		a.Err = h.Alloc(o.A, o.B, o.C)
	case api.OpLoad:
		a.Err = h.Load(o.A, o.B, o.C)
	case api.OpStore:
		a.Err = h.Store(o.A, o.B, o.C)
	case api.OpRead:
		a.V, a.Err = h.Read(o.A, o.B)
	case api.OpWrite:
		a.Err = h.Write(o.A, o.B, o.V)
	case api.OpCopy:
		a.Err = h.Copy(o.A, o.B)
	case api.OpDrop:
		a.Err = h.Drop(o.A)
	case api.OpSame:
		same := false
		if same, a.Err = h.Same(o.A, o.B); same {
			a.N = 1
		}
	case api.OpLen:
		a.N, a.M, a.Err = h.Len(o.A)
	case api.OpTick:
		a.Err = h.Tick()
	}
	return a
}

// slotsOf answers the slots that an operation is told.
func slotsOf(o api.Op) []int {
	switch o.Kind {
	case api.OpLoad, api.OpCopy, api.OpSame:
		return []int{o.A, o.B}
	case api.OpStore:
		return []int{o.A, o.C}
	case api.OpTick:
		return nil
	}
	return []int{o.A}
}

// thing is an object as it has to be: what its pointer fields hold, nil where that is nothing, and its words.
type thing struct {
	ptrs   []*thing
	data   []uint32
	blocks int
}

// kept is a heap, and beside it what each of its slots has to hold.
type kept struct {
	h     *heap.Heap
	c     api.Conf
	slots []*thing
	// twin is where the work of the layers below is done to tell what has to stand behind it.
	twin *ground.Ground
}

// open answers a new heap.
func open(t *testing.T, c api.Conf) *kept {
	t.Helper()
	h, err := heap.New(c)
	if err != api.OK {
		t.Fatalf("%v: %d", c, err)
	}
	twin, _ := ground.New(c)
	return &kept{h, c, make([]*thing, c.R), twin}
}

// again answers another heap, over the words that the heap has now, and beside it what its slots have to hold, which the two share no object of.
func (k *kept) again(t *testing.T) *kept {
	t.Helper()
	h, err := heap.Over(k.c, k.h.Ground().Words())
	if err != api.OK {
		t.Fatalf("%v: Over: %d", k.c, err)
	}
	n := &kept{h, k.c, nil, k.twin}
	copied := map[*thing]*thing{nil: nil}
	for _, x := range k.slots {
		n.slots = append(n.slots, x.copied(copied))
	}
	return n
}

// copied answers a copy of an object, and of all that it can reach, but of those that were copied already.
func (x *thing) copied(by map[*thing]*thing) *thing {
	if y, ok := by[x]; ok {
		return y
	}
	y := &thing{make([]*thing, len(x.ptrs)), slices.Clone(x.data), x.blocks}
	by[x] = y
	for i, p := range x.ptrs {
		y.ptrs[i] = p.copied(by)
	}
	return y
}

// room is how many blocks are clean, or pending.
func (k *kept) room() int {
	return k.h.Ground().SeeReg(cleans) + k.h.Ground().SeeReg(pendings)
}

// wrong answers the error that an operation has to tell, whatever room there is.
func (k *kept) wrong(o api.Op) api.Errno {
	for _, s := range slotsOf(o) {
		if s < 0 || s >= k.c.R {
			return api.ErrSlot
		}
	}
	switch o.Kind {
	case api.OpAlloc:
		if all := (k.c.W - 8) * (k.c.W - 1); o.B < 0 || o.C < 0 || o.B > all || o.C > all-o.B {
			return api.ErrSize
		}
	case api.OpLoad:
		return k.wrongIn(o.B, o.C, func(x *thing) int { return len(x.ptrs) })
	case api.OpStore:
		return k.wrongIn(o.A, o.B, func(x *thing) int { return len(x.ptrs) })
	case api.OpRead, api.OpWrite:
		return k.wrongIn(o.A, o.B, func(x *thing) int { return len(x.data) })
	case api.OpLen:
		return k.wrongIn(o.A, 0, func(*thing) int { return 1 })
	}
	return api.OK
}

// wrongIn answers the error that looking into a slot's object has to tell, which has so many fields.
func (k *kept) wrongIn(slot, i int, fields func(*thing) int) api.Errno {
	if k.slots[slot] == nil {
		return api.ErrNil
	}
	if i < 0 || i >= fields(k.slots[slot]) {
		return api.ErrIndex
	}
	return api.OK
}

// blocksOf is of how many blocks the object of an operation is.
func (k *kept) blocksOf(o api.Op) int {
	if o.Kind != api.OpAlloc {
		return 0
	}
	if o.B+o.C <= k.c.W-8 {
		return 1
	}
	return 1 + (o.B+o.C+k.c.W-2)/(k.c.W-1)
}

// answer answers what an operation has to answer, and lets the slots hold what they have to behind it.
func (k *kept) answer(o api.Op) api.Answer {
	if err := k.wrong(o); err != api.OK {
		return api.Answer{Err: err}
	}
	switch o.Kind {
	case api.OpAlloc:
		if k.room() < k.blocksOf(o) {
			return api.Answer{Err: api.ErrFull}
		}
		k.slots[o.A] = &thing{make([]*thing, o.B), make([]uint32, o.C), k.blocksOf(o)}
	case api.OpLoad:
		k.slots[o.A] = k.slots[o.B].ptrs[o.C]
	case api.OpStore:
		k.slots[o.A].ptrs[o.B] = k.slots[o.C]
	case api.OpRead:
		return api.Answer{V: k.slots[o.A].data[o.B]}
	case api.OpWrite:
		k.slots[o.A].data[o.B] = o.V
	case api.OpCopy:
		k.slots[o.A] = k.slots[o.B]
	case api.OpDrop:
		k.slots[o.A] = nil
	case api.OpSame:
		if k.slots[o.A] == k.slots[o.B] {
			return api.Answer{N: 1}
		}
	case api.OpLen:
		return api.Answer{N: len(k.slots[o.A].ptrs), M: len(k.slots[o.A].data)}
	}
	return api.Answer{}
}

// below does what an operation has to do, where it tells no error, by the calls of the layers below, one by one as the chapter tells them.
func below(g *ground.Ground, o api.Op) {
	c, units := g.Conf(), 0
	switch o.Kind {
	case api.OpAlloc:
		blocks, _ := shape.Blocks(c.W, o.B, o.C)
		pace.Free(g, blocks)
		r, _ := link.Born(g, o.B, o.C)
		sets(g, o.A, r)
		units = blocks * c.K
	case api.OpLoad:
		x, _ := link.Get(g, g.Root(o.B), o.C)
		holds(g, o.A, x)
		units = 1
	case api.OpStore:
		link.Put(g, g.Root(o.A), o.B, g.Root(o.C))
		units = 1
	case api.OpWrite:
		obj.SetData(g, g.Root(o.A), o.B, o.V)
	case api.OpCopy:
		holds(g, o.A, g.Root(o.B))
		units = 1
	case api.OpDrop:
		sets(g, o.A, 0)
		units = 1
	case api.OpTick:
		pace.Drain(g, c.K)
		units = c.K
	}
	// Each call tells how many units were done, so where none has to be paid none is.
	if units > 0 {
		pace.Pay(g, units)
	}
}

// holds holds r, if it isn't 0, and sets a slot to it.
func holds(g *ground.Ground, slot, r int) {
	if r != 0 {
		link.Hold(g, r)
	}
	sets(g, slot, r)
}

// sets sets a slot to r.
func sets(g *ground.Ground, slot, r int) {
	y := g.Root(slot)
	g.SetRoot(slot, r)
	if y != 0 {
		link.Let(g, y)
	}
}

// do does an operation, and tells where it answers something else than it has to, makes more accesses than it may, or any word isn't as it has to be behind it.
func (k *kept) do(t *testing.T, o api.Op) api.Answer {
	t.Helper()
	g := k.h.Ground()
	words := g.Words()
	want := k.answer(o)
	ahead := g.Meter()
	got := call(k.h, o)
	if got != want {
		t.Fatalf("%v: %v: %v, not %v", k.c, o, got, want)
	}
	longest := plan.Pause(k.c, o.Kind, k.blocksOf(o))
	if want.Err != api.OK {
		longest = 512
	}
	if n := g.Meter() - ahead; n > uint64(longest) {
		t.Errorf("%v: %v: %d accesses, at most %d", k.c, o, n, longest)
	}
	if want.Err == api.OK {
		k.twin.Load(words)
		below(k.twin, o)
		words = k.twin.Words()
	}
	same(t, o, g.Words(), words)
	return got
}

// all does operations one behind the other, none of which tells an error.
func (k *kept) all(t *testing.T, l ...api.Op) {
	t.Helper()
	for _, o := range l {
		if a := k.do(t, o); a.Err != api.OK {
			t.Fatalf("%v: %v: %d", k.c, o, a.Err)
		}
	}
}

// fails does an operation that has to tell an error.
func (k *kept) fails(t *testing.T, o api.Op, want api.Errno) {
	t.Helper()
	if a := k.do(t, o); a.Err != want {
		t.Errorf("%v: %v: %d, not %d", k.c, o, a.Err, want)
	}
}

// same tells where words behind an operation are others than they have to be.
func same(t *testing.T, o api.Op, got, want []uint32) {
	t.Helper()
	if slices.Equal(got, want) {
		return
	}
	for i := range got {
		if got[i] != want[i] {
			t.Fatalf("%v: the word %d of the store is %d, not %d", o, i, got[i], want[i])
		}
	}
}

// reached answers all that can be reached from a slot.
func (k *kept) reached() []*thing {
	met := map[*thing]bool{nil: true}
	var l []*thing
	meet := func(x *thing) {
		if !met[x] {
			met[x] = true
			l = append(l, x)
		}
	}
	for _, x := range k.slots {
		meet(x)
	}
	for i := 0; i < len(l); i++ {
		for _, x := range l[i].ptrs {
			meet(x)
		}
	}
	return l
}

// live is how many blocks those have together that can be reached.
func (k *kept) live() int {
	n := 0
	for _, x := range k.reached() {
		n += x.blocks
	}
	return n
}

// alike tells where what can be reached isn't as it has to be: each of them one object that isn't dead, no two the same one, with what was put there last, and counted at least as often as it is named. It answers their references.
func (k *kept) alike(t *testing.T) map[*thing]int {
	t.Helper()
	g := k.h.Ground()
	at, by, names := map[*thing]int{nil: 0}, map[int]*thing{0: nil}, map[int]int{}
	pair := func(x *thing, r int) {
		y, ok := at[x]
		z, other := by[r]
		if ok && y != r || other && z != x {
			t.Fatalf("%v: what is the same isn't, or %d is two", k.c, r)
		}
		at[x], by[r] = r, x
		names[r]++
	}
	for i, x := range k.slots {
		pair(x, g.SeeRoot(i))
	}
	for _, x := range k.reached() {
		o, ok := obj.See(g, at[x])
		if !ok || len(o.Ptrs) != len(x.ptrs) || !slices.Equal(o.Data, x.data) || slices.Contains(grave.List(g), at[x]) {
			t.Fatalf("%v: %d isn't there as it has to be", k.c, at[x])
		}
		for i, y := range x.ptrs {
			pair(y, o.Ptrs[i])
		}
	}
	for r, n := range names {
		if r != 0 && count.See(g, r) < n {
			t.Fatalf("%v: %d is named %d times, and counted %d times", k.c, r, n, count.See(g, r))
		}
	}
	return at
}

// settled answers an empty text where all blocks but those of what can be reached are clean, and each of these is counted just as often as it is named; else what isn't so.
func (k *kept) settled(t *testing.T) string {
	t.Helper()
	g, at, names := k.h.Ground(), k.alike(t), map[*thing]int{}
	for _, x := range k.slots {
		names[x]++
	}
	for _, x := range k.reached() {
		for _, y := range x.ptrs {
			names[y]++
		}
	}
	if n := k.c.N - k.live(); len(pool.List(g)) != n || k.h.Clean() != n || k.h.Pending() != 0 {
		return "not all other blocks are clean"
	}
	for x, n := range names {
		if x != nil && count.See(g, at[x]) != n {
			return "one isn't counted as often as it is named"
		}
	}
	return ""
}

// chance answers a row of numbers that is the same at each run.
func chance(seed uint32) func(int) int {
	return func(bound int) int {
		seed = seed*1664525 + 1013904223
		return int(seed>>8) % bound
	}
}
