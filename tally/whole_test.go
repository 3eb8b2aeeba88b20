package tally_test

import (
	"slices"
	"testing"

	"quitrent/api"
	"quitrent/count"
	"quitrent/grave"
	"quitrent/ground"
	"quitrent/link"
	"quitrent/obj"
	"quitrent/pool"
	"quitrent/tally"
	"quitrent/tint"
)

// names answers how often the fields of these objects name each one.
func (k *kept) names(l []int) map[int]int {
	n := map[int]int{}
	for _, r := range l {
		o, _ := obj.See(k.g, r)
		for _, x := range o.Ptrs {
			n[x]++
		}
	}
	return n
}

// objects answers the references of all objects.
func (k *kept) objects() []int {
	var l []int
	for r := 1; r <= k.c.N; r++ {
		if _, ok := obj.See(k.g, r); ok {
			l = append(l, r)
		}
	}
	return l
}

// P16.2: objects of all kinds that name each other in any way, some of them counted or dead ahead: a whole count, at either parity; each shadow is how often fields of those that weren't counted name the object, all are counted, and another count changes none.
func TestWhole(t *testing.T) {
	for _, c := range confs {
		for seed := range 1 + 400/c.W {
			k, next := open(t, c), chance(uint32(seed))
			l := k.some(t)
			k.fill(l, next)
			for range 2 {
				tint.Turn(k.g)
				for _, r := range l {
					tint.Dye(k.g, r)
				}
				k.begin()
				todo := k.notAll(l, next)
				want := k.names(todo)
				k.whole(t)
				k.isCounted(t, l, want)
				tint.Begin(k.g, api.Counting)
				k.read()
				if n := k.whole(t); n != c.N {
					t.Errorf("%v: %d steps of another count", c, n)
				}
				k.isCounted(t, l, want)
			}
		}
	}
}

// notAll lets some of these objects be counted, or dead, and answers those that aren't counted.
func (k *kept) notAll(l []int, next func(int) int) []int {
	var todo []int
	for _, r := range l {
		switch next(5) {
		case 0:
			tint.Done(k.g, r)
			continue
		case 1:
			tint.Kill(k.g, r)
		}
		todo = append(todo, r)
	}
	k.read()
	return todo
}

// isCounted tells where an object's shadow isn't as said, or one wasn't counted.
func (k *kept) isCounted(t *testing.T, l []int, want map[int]int) {
	t.Helper()
	for _, r := range l {
		if n := tint.Shadow(k.g, r); n != want[r] {
			t.Errorf("%v: the shadow of %d is %d, not %d", k.c, r, n, want[r])
		}
		if tint.Move(k.g, 0, 0); !tint.Counted(k.g, r, 0) {
			t.Errorf("%v: %d isn't counted", k.c, r)
		}
	}
}

// P16.2: as many fields as so many blocks can have: there are not more steps than N times W.
func TestMostSteps(t *testing.T) {
	for _, c := range []api.Conf{{N: 1, W: 16, R: 1, K: 1}, small, some, {N: 249, W: 256, R: 1, K: 1}} {
		for leaves := range min(c.N, c.W-7) {
			// Of many it is enough to take some.
			if leaves > 20 && leaves%76 != 20 {
				continue
			}
			k := open(t, c)
			fields := c.W - 8
			if leaves > 0 {
				fields = leaves * (c.W - 1)
			}
			steps := 0
			for pool.Len(k.g) > leaves {
				r := k.born(t, fields, 0)
				steps += fields + 1 + leaves
				for i := range fields {
					k.setField(r, i, r)
				}
			}
			steps += pool.Len(k.g)
			k.begin()
			n := 0
			for tally.Step(k.g) {
				n++
			}
			if n != steps || n > c.N*c.W {
				t.Errorf("%v: %d steps, not %d", c, n, steps)
			}
			for _, r := range k.objects() {
				if got := tint.Shadow(k.g, r); got != fields {
					t.Errorf("%v: the shadow of %d is %d, not %d", c, r, got, fields)
				}
			}
		}
	}
}

// mutator holds objects, and does what it can by them.
type mutator struct {
	*kept
	holds map[int]int
	next  func(int) int
}

// held answers one of the objects that are held, 0 where there are none.
func (m *mutator) held() int {
	var l []int
	for r, n := range m.holds {
		if n > 0 {
			l = append(l, r)
		}
	}
	if len(l) == 0 {
		return 0
	}
	slices.Sort(l)
	return l[m.next(len(l))]
}

// do does something that a mutator may do, and tells where it can't.
func (m *mutator) do(t *testing.T) {
	t.Helper()
	r := m.held()
	nptr, _, _ := obj.Lens(m.g, r)
	done := true
	switch n := m.next(12); {
	case n < 2 || r == 0:
		m.bear()
	case n < 5:
		m.holds[r]--
		done = link.Let(m.g, r)
	case n == 5:
		m.holds[r]++
		done = link.Hold(m.g, r)
	case n < 8 && nptr > 0:
		if x, _ := link.Get(m.g, r, m.next(nptr)); x != 0 {
			m.holds[x]++
			done = link.Hold(m.g, x)
		}
	case nptr > 0:
		x := m.held()
		if n == 8 {
			x = 0
		}
		done = link.Put(m.g, r, m.next(nptr), x) == api.OK
	}
	if !done {
		t.Fatalf("%v: what a mutator may do isn't done", m.c)
	}
}

// bear has some object born, if there is room.
func (m *mutator) bear() {
	n := m.next(m.c.W - 7)
	if m.next(3) == 0 {
		n = m.next(3 * m.c.W)
	}
	nptr := m.next(n + 1)
	if r, err := link.Born(m.g, nptr, n-nptr); err == api.OK {
		m.holds[r]++
	}
}

// drain does some steps of the grave.
func (m *mutator) drain(most int) {
	for range m.next(most + 1) {
		grave.Step(m.g)
	}
}

// P16.3: whatever is born, held, let, put and drained between the steps: of each object that is neither dead nor black and was there all the while the count less the shadow is the number of its holds.
func TestAnyCalls(t *testing.T) {
	for _, c := range []api.Conf{{N: 1, W: 16, R: 1, K: 1}, {N: 4, W: 16, R: 1, K: 1}, small, {N: 24, W: 17, R: 3, K: 1}} {
		told := 0
		for seed := range 150 {
			m := &mutator{open(t, c), map[int]int{}, chance(uint32(c.N*1000 + seed))}
			for range 4 * c.N {
				m.do(t)
				m.drain(seed % 4)
			}
			for range 3 {
				told += m.epoch(t, 1+seed%7)
			}
		}
		if c.N > 1 && told < 100 {
			t.Errorf("%v: %d objects have shadows: that tells too little", c, told)
		}
	}
}

// epoch does a whole count, with something of the mutator behind some of the steps, and answers how many objects with a shadow were told of.
func (m *mutator) epoch(t *testing.T, often int) int {
	t.Helper()
	for _, r := range m.objects() {
		tint.Dye(m.g, r)
	}
	m.begin()
	// Who isn't black behind a count wasn't born in it: so it was there all the while, if it was there ahead.
	there := m.objects()
	for {
		for range m.next(often) / 2 {
			m.do(t)
			m.drain(2)
			m.read()
		}
		if !m.step(t) {
			break
		}
	}
	told := 0
	for _, r := range there {
		if !obj.Is(m.g, r) || tint.Dead(m.g, r) || tint.Black(m.g, r) {
			continue
		}
		shadow := tint.Shadow(m.g, r)
		if got := count.Of(m.g, r) - shadow; got != m.holds[r] {
			t.Fatalf("%v: the count of %d is %d, its shadow %d, but it has %d holds", m.c, r, count.Of(m.g, r), shadow, m.holds[r])
		}
		if shadow > 0 {
			told++
		}
	}
	m.unmark()
	return told
}

// unmark lets no epoch be under way, and nobody stand in the ring.
func (m *mutator) unmark() {
	for r := 7; r < 10; r++ {
		m.g.SetReg(r, 0)
	}
	for _, r := range m.objects() {
		m.g.SetWord(r-1, 0, m.g.Word(r-1, 0)&^(1<<inRing))
	}
	tint.Begin(m.g, api.Idle)
}

// P16.3: one is buried and drained while the count is in its midst: whom its fields name that were counted are lightened, the others aren't.
func TestDrainedMidway(t *testing.T) {
	for steps := range 8 {
		for drains := range 7 {
			k := open(t, small)
			r, x := k.born(t, 5, 0), k.born(t, 0, 0)
			for i := range 5 {
				link.Put(k.g, r, i, x)
			}
			k.begin()
			for range steps {
				k.step(t)
			}
			link.Let(k.g, r)
			for range drains {
				grave.Step(k.g)
			}
			k.read()
			k.whole(t)
			if got := count.Of(k.g, x) - tint.Shadow(k.g, x); got != 1 {
				t.Errorf("%d steps, %d of the grave: the count is %d, the shadow %d", steps, drains, count.Of(k.g, x), tint.Shadow(k.g, x))
			}
		}
	}
}

// P16.3: one is ended, and another one is born in its block, while the cursor is in its midst: that one is counted already.
func TestBornMidway(t *testing.T) {
	k := open(t, small)
	r, x := k.born(t, 3, 0), k.born(t, 0, 0)
	link.Put(k.g, r, 2, x)
	k.begin()
	k.step(t)
	link.Let(k.g, r)
	for grave.Step(k.g) {
	}
	if again := k.born(t, 3, 0); again != r || link.Put(k.g, r, 2, r) != api.OK {
		t.Fatalf("%d is born, not %d", again, r)
	}
	k.read()
	if c, f := k.after(t); c != r || f != 0 || tint.Shadow(k.g, r) != 0 {
		t.Errorf("the cursor is %d, %d, the shadow %d", c, f, tint.Shadow(k.g, r))
	}
	k.whole(t)
	if got := count.Of(k.g, x) - tint.Shadow(k.g, x); got != 1 {
		t.Errorf("the count less the shadow is %d", got)
	}
}

// P16.1, and the document's P7: all that is known are the ground's words: on another ground with the same ones the count goes on, access by access.
func TestWordsAreAll(t *testing.T) {
	k := open(t, some)
	k.fill(k.some(t), chance(5))
	k.begin()
	for k.step(t) {
		other, err := ground.New(some)
		if err != api.OK || !other.Load(k.g.Words()) {
			t.Fatal("Load", err)
		}
		start := k.g.Words()
		ahead := k.g.Meter()
		if tally.Step(k.g) != tally.Step(other) || k.g.Meter()-ahead != other.Meter() || !slices.Equal(k.g.Words(), other.Words()) {
			t.Fatal("it goes on otherwise on another ground")
		}
		k.g.Load(start)
	}
}
