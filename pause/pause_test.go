package pause_test

import (
	"slices"
	"testing"

	"quitrent/api"
	"quitrent/heap"
	"quitrent/op"
	"quitrent/pause"
)

// P27.1: behind each of any operations the answers are layer 22's, the words too, and the lines and Worst tell of all up to then.
func TestAnyOperations(t *testing.T) {
	for i, c := range confs {
		seen := map[int]int{}
		wrong := 0
		for seed := range 6 {
			h := newHeap(t, c)
			w, m := pause.New(h), newModel(t, c)
			for at, o := range anyOps(chance(uint32(10*i+seed)), c, 200) {
				a := w.Do(o)
				if want, _ := m.do(o); a != want {
					t.Fatalf("%v: %v, the operation %d: %v, want %v", c, o, at, a, want)
				}
				if l := w.Lines(); !slices.Equal(l, m.lines()) || w.Worst() != worst(l) {
					t.Fatalf("%v: behind the operation %d: %v, %d, want %v", c, at, l, w.Worst(), m.lines())
				}
				seen[o.Kind]++
				if a.Err != api.OK {
					wrong++
				}
			}
			if h.Meter() != m.h.Meter() || !slices.Equal(h.Ground().Words(), m.h.Ground().Words()) {
				t.Fatalf("%v: other words, or a meter of %d, want %d", c, h.Meter(), m.h.Meter())
			}
		}
		for _, kind := range kinds {
			if seen[kind] < 10 {
				t.Errorf("%v: %d of the kind %d: that tells too little", c, seen[kind], kind)
			}
		}
		if wrong < 100 {
			t.Errorf("%v: %d errors: that tells too little", c, wrong)
		}
	}
}

// P27.1: lines that are told here whole: of what the meter rose by, and no kind but those of which there was one.
func TestLines(t *testing.T) {
	h := newHeap(t, small)
	w := pause.New(h)
	if l := w.Lines(); len(l) != 0 || w.Worst() != 0 {
		t.Fatal("without an operation:", l, w.Worst())
	}
	took := func(o api.Op, want api.Errno) int {
		t.Helper()
		ahead := h.Meter()
		if a := w.Do(o); a.Err != want {
			t.Fatalf("%v: %v", o, a)
		}
		return int(h.Meter() - ahead)
	}
	// From the greatest kind to the least, so that the order is seen to be that of the kinds.
	tick := took(ticks(), api.OK)
	first := took(allocates(0, 1, 20), api.OK)
	second := took(allocates(1, 1, 0), api.OK)
	want := []pause.Line{
		{Kind: api.OpAlloc, Count: 2, Worst: first, Sum: first + second},
		{Kind: api.OpTick, Count: 1, Worst: tick, Sum: tick},
	}
	if l := w.Lines(); first <= second || !slices.Equal(l, want) || w.Worst() != first {
		t.Errorf("%v, %d, want %v", l, w.Worst(), want)
	}
	third := took(allocates(2, 0, 40), api.OK)
	store := took(stores(0, 0, 1), api.OK)
	want = []pause.Line{
		{Kind: api.OpAlloc, Count: 3, Worst: max(first, third), Sum: first + second + third},
		{Kind: api.OpStore, Count: 1, Worst: store, Sum: store},
		want[1],
	}
	if l := w.Lines(); !slices.Equal(l, want) || w.Worst() != max(first, third) {
		t.Errorf("%v, %d, want %v", l, w.Worst(), want)
	}
}

// P27.1: Worst of all is that of any kind, also of the least and of the greatest one.
func TestWorstOfAnyKind(t *testing.T) {
	for _, x := range []struct {
		c    api.Conf
		kind int
	}{{lazy, api.OpAlloc}, {quick, api.OpTick}} {
		w := pause.New(newHeap(t, x.c))
		for _, o := range []api.Op{lens(0), ticks(), allocates(0, 1, 40), allocates(1, 3, 3), reads(0, 3), loads(1, 0, 0), ticks(), lens(0)} {
			w.Do(o)
		}
		l := w.Lines()
		if top := line(l, x.kind); w.Worst() != top.Worst || w.Worst() != worst(l) || top.Worst <= line(l, api.OpLoad).Worst {
			t.Errorf("%v: %d, of %v", x.c, w.Worst(), l)
		}
	}
}

// P27.1: operations that tell errors are watched as all others are, also those that make no access at all.
func TestErrorsAreWatched(t *testing.T) {
	w := pause.New(newHeap(t, tight))
	for i, x := range []struct {
		o    api.Op
		want api.Errno
	}{
		{allocates(2, 0, 0), api.ErrSlot}, {allocates(0, 0, -1), api.ErrSize}, {allocates(0, 9, 0), api.ErrFull},
		{loads(0, 1, 0), api.ErrNil}, {stores(-1, 0, 0), api.ErrSlot}, {reads(0, 0), api.ErrNil}, {writes(7, 0, 1), api.ErrSlot},
		{copies(0, 2), api.ErrSlot}, {drops(-1), api.ErrSlot}, {sames(0, 2), api.ErrSlot}, {lens(1), api.ErrNil},
	} {
		kind := x.o.Kind
		ahead := line(w.Lines(), kind)
		if a := w.Do(x.o); a != (api.Answer{Err: x.want}) {
			t.Errorf("the case %d: %v, want %d", i, a, x.want)
		}
		if l := line(w.Lines(), kind); l.Count != ahead.Count+1 || l.Sum < ahead.Sum || l.Kind != kind {
			t.Errorf("the case %d: %v, then %v", i, ahead, l)
		}
	}
	if l := w.Lines(); len(l) != 9 || l[0].Count != 3 || l[2].Sum != 0 || l[2].Worst != 0 {
		t.Error(l)
	}
	// A line without an access is one all the same.
	w = pause.New(newHeap(t, tight))
	w.Do(drops(9))
	if l := w.Lines(); !slices.Equal(l, []pause.Line{{Kind: api.OpDrop, Count: 1}}) || w.Worst() != 0 {
		t.Error(l, w.Worst())
	}
}

// P27.1: operations of no kind tell layer 22's error, do nothing, and are not watched.
func TestNoKind(t *testing.T) {
	for _, c := range confs {
		h := newHeap(t, c)
		w := pause.New(h)
		for _, kind := range wrongKinds {
			if a := w.Do(api.Op{Kind: kind, B: 1, V: 1}); a != (api.Answer{Err: api.ErrOp}) {
				t.Errorf("%v: the kind %d: %v", c, kind, a)
			}
		}
		if l := w.Lines(); len(l) != 0 || w.Worst() != 0 || h.Meter() != 0 {
			t.Errorf("%v: %v, %d, %d", c, l, w.Worst(), h.Meter())
		}
		w.Do(lens(0))
		ahead := w.Lines()
		for _, kind := range wrongKinds {
			w.Do(api.Op{Kind: kind})
		}
		if l := w.Lines(); len(l) != 1 || !slices.Equal(l, ahead) {
			t.Errorf("%v: %v, then %v", c, ahead, l)
		}
	}
}

// P27.1: of a nil watch, and of one over a nil heap, there is an error, whatever the operation is, and nothing is watched.
func TestNil(t *testing.T) {
	if pause.New(nil) == nil {
		t.Error("no watch over a nil heap")
	}
	for i, w := range []*pause.Watch{nil, pause.New(nil)} {
		for range 2 {
			for _, kind := range slices.Concat(kinds, wrongKinds) {
				for _, o := range []api.Op{{Kind: kind}, {Kind: kind, A: -1, B: most, C: 9, V: 9}} {
					if a := w.Do(o); a != (api.Answer{Err: api.ErrConf}) {
						t.Errorf("the watch %d: %v: %v", i, o, a)
					}
				}
			}
			if l := w.Lines(); len(l) != 0 || w.Worst() != 0 {
				t.Errorf("the watch %d: %v, %d", i, l, w.Worst())
			}
		}
	}
}

// P27.1: a watch is over the heap itself, tells only of what is done by it, and begins anew over a heap that has done much.
func TestWatchesApart(t *testing.T) {
	h := newHeap(t, some)
	op.Run(h, anyOps(chance(3), some, 300))
	if h.Meter() == 0 {
		t.Fatal("that tells too little")
	}
	here, there := pause.New(h), pause.New(h)
	if len(here.Lines()) != 0 || here.Worst() != 0 {
		t.Error("a new one:", here.Lines())
	}
	here.Do(allocates(0, 2, 60))
	if a := there.Do(lens(0)); a != (api.Answer{N: 2, M: 60}) {
		t.Error(a)
	}
	first := here.Lines()
	if l := there.Lines(); len(first) != 1 || first[0].Kind != api.OpAlloc || len(l) != 1 || l[0].Kind != api.OpLen {
		t.Error(first, l)
	}
	// What others do meanwhile is in no line.
	op.Run(h, []api.Op{ticks(), allocates(1, 9, 90), drops(1), lens(0)})
	ahead := h.Meter()
	here.Do(drops(0))
	took := int(h.Meter() - ahead)
	want := append(slices.Clone(first), pause.Line{Kind: api.OpDrop, Count: 1, Worst: took, Sum: took})
	if l := here.Lines(); took == 0 || !slices.Equal(l, want) || here.Worst() != max(first[0].Worst, took) {
		t.Errorf("%v, want %v", l, want)
	}
	if a := op.Do(h, lens(0)); a.Err != api.ErrNil {
		t.Error("not the heap itself:", a)
	}
}

// P27.1: Lines and Worst make no access, change nothing, and what they answer may be written into.
func TestLinesAreOnesOwn(t *testing.T) {
	h := newHeap(t, some)
	w := pause.New(h)
	for _, o := range anyOps(chance(5), some, 100) {
		w.Do(o)
	}
	meter, kept := h.Meter(), slices.Clone(w.Lines())
	l := w.Lines()
	_ = append(l[:1], pause.Line{Kind: 99})
	for i := range l {
		l[i] = pause.Line{Kind: 99, Count: -1, Worst: 1 << 40, Sum: -1, Over: 99}
	}
	if again := w.Lines(); !slices.Equal(again, kept) || w.Worst() != worst(kept) || h.Meter() != meter {
		t.Errorf("%v, want %v", again, kept)
	}
	w.Do(lens(0))
	if !slices.Equal(l[:1], []pause.Line{{Kind: 99, Count: -1, Worst: 1 << 40, Sum: -1, Over: 99}}) {
		t.Error("what was answered ahead changed:", l)
	}
}

// P27.2: Of tells the lines of the operations on a new heap, each time the same, and leaves the operations as they are.
func TestOf(t *testing.T) {
	for i, c := range confs {
		for _, many := range []int{0, 1, 17, 500} {
			ops, m := anyOps(chance(uint32(40+i+many)), c, many), newModel(t, c)
			for _, o := range ops {
				m.do(o)
			}
			kept := slices.Clone(ops)
			for range 2 {
				l, err := pause.Of(c, ops)
				if err != api.OK || !slices.Equal(l, m.lines()) || !slices.Equal(ops, kept) {
					t.Fatalf("%v: %v, %d, want %v", c, l, err, m.lines())
				}
				clear(l)
			}
		}
		for _, ops := range [][]api.Op{nil, {}, {{}}, {{Kind: 11}, {Kind: -1}}} {
			if l, err := pause.Of(c, ops); err != api.OK || len(l) != 0 {
				t.Errorf("%v: %v: %v, %d", c, ops, l, err)
			}
		}
	}
}

// P27.2: more operations than a script has.
func TestOfMany(t *testing.T) {
	m, ops := newModel(t, small), anyOps(chance(8), small, api.MaxOps+1000)
	for _, o := range ops {
		m.do(o)
	}
	if l, err := pause.Of(small, ops); err != api.OK || len(l) != 10 || !slices.Equal(l, m.lines()) {
		t.Errorf("%v, %d, want %v", l, err, m.lines())
	}
}

// P27.2: of a configuration that may not be there is layer 3's error, and no line, whatever the operations are.
func TestWrongConf(t *testing.T) {
	for _, c := range wrongConfs() {
		for _, ops := range [][]api.Op{nil, {ticks()}, {lens(0), {Kind: 99}}} {
			if l, err := pause.Of(c, ops); err != api.ErrConf || len(l) != 0 {
				t.Errorf("%v: %v, %d", c, l, err)
			}
		}
		// A watch over the heap that there isn't.
		h, _ := heap.New(c)
		if a := pause.New(h).Do(lens(0)); a != (api.Answer{Err: api.ErrConf}) {
			t.Errorf("%v: %v", c, a)
		}
	}
}
