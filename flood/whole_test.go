package flood_test

import (
	"slices"
	"testing"

	"quitrent/api"
	"quitrent/flood"
	"quitrent/grave"
	"quitrent/ground"
	"quitrent/link"
	"quitrent/obj"
	"quitrent/pool"
	"quitrent/ring"
	"quitrent/tally"
	"quitrent/tint"
)

// objects answers the references of all objects.
func (k *kept) objects() []int {
	var l []int
	for r := 1; r <= k.c.N; r++ {
		if _, ok := obj.See(k.g, r); ok {
			l = append(l, r)
		}
	}
	return l
}

// reached answers who is reached from these objects by fields, they themselves too, without going on behind those where the way ends.
func (k *kept) reached(from []int, ends func(int) bool) map[int]bool {
	met := map[int]bool{}
	todo := slices.Clone(from)
	for len(todo) > 0 {
		r := todo[0]
		todo = todo[1:]
		if met[r] || !obj.Is(k.g, r) || ends(r) {
			continue
		}
		met[r] = true
		o, _ := obj.See(k.g, r)
		todo = append(todo, o.Ptrs...)
	}
	return met
}

// P17.2: objects of all kinds that name each other in any way, with any counts, some of them black, dead or in the ring ahead: a whole flood, at either parity; just those are black that were, or whose count was above their shadow, or whom one names that has come into the ring.
func TestWhole(t *testing.T) {
	for _, c := range confs {
		for seed := range 1 + 400/c.W {
			k, by := open(t, c), chance(uint32(seed))
			l := k.some(t)
			k.fill(l, by)
			for range 2 {
				for _, r := range l {
					tint.Dye(k.g, r)
				}
				k.beginCounted()
				seeds := k.anyMarks(l, by)
				black, shadows := k.black(), k.shadows(l)
				// Who was black isn't scanned, but for those in the ring.
				want := k.reached(seeds, func(r int) bool { return tint.Dead(k.g, r) || black[r] && !slices.Contains(seeds, r) })
				k.whole(t)
				for _, r := range l {
					if tint.Black(k.g, r) != (black[r] || want[r]) {
						t.Errorf("%v: of %d black is %v", c, r, tint.Black(k.g, r))
					}
				}
				if !slices.Equal(k.shadows(l), shadows) {
					t.Errorf("%v: the shadows were %v, and are %v", c, shadows, k.shadows(l))
				}
				k.ended(t)
			}
		}
	}
}

// anyMarks lets some of these objects be black, dead, in the ring, or named more often or less than by fields, and answers those that a flood has to begin with.
func (k *kept) anyMarks(l []int, by func(int) int) []int {
	var seeds []int
	for _, r := range l {
		shadow := tint.Shadow(k.g, r)
		k.set(r, countAt, shadow)
		switch by(7) {
		case 0:
			tint.Paint(k.g, r)
			k.set(r, countAt, shadow+by(3))
		case 1:
			tint.Kill(k.g, r)
			k.set(r, countAt, shadow+by(3))
		case 2:
			tint.Touch(k.g, r)
			seeds = append(seeds, r)
		case 3:
			k.set(r, countAt, shadow+1+by(3))
			seeds = append(seeds, r)
		case 4:
			k.set(r, countAt, shadow/2)
		}
		k.read()
	}
	return seeds
}

// black answers who is black.
func (k *kept) black() map[int]bool {
	l := map[int]bool{}
	for _, r := range k.objects() {
		l[r] = tint.Black(k.g, r)
	}
	return l
}

// shadows answers the shadows of these objects.
func (k *kept) shadows(l []int) []int {
	var n []int
	for _, r := range l {
		n = append(n, tint.Shadow(k.g, r))
	}
	return n
}

// ended tells where a flood that has no step any more has left something.
func (k *kept) ended(t *testing.T) {
	t.Helper()
	if c, _ := tint.At(k.g); c != k.c.N || ring.Len(k.g) != 0 || k.g.Reg(scanned) != 0 {
		t.Errorf("%v: the cursor is %d, the ring %v, %d is scanned", k.c, c, ring.List(k.g), k.g.Reg(scanned))
	}
	for _, r := range k.objects() {
		if !tint.Dead(k.g, r) && !k.mark(r, shade) {
			t.Errorf("%v: the shadow of %d isn't of this epoch", k.c, r)
		}
	}
}

// P17.2: as many objects, and as many fields, as so many blocks can have: each comes into the ring, and there are not more steps than N times W and 2.
func TestMostSteps(t *testing.T) {
	for _, c := range []api.Conf{{N: 1, W: 16, R: 1, K: 1}, small, some, {N: 249, W: 256, R: 1, K: 1}} {
		for leaves := range min(c.N, c.W-7) {
			// Of many it is enough to take some.
			if leaves > 20 && leaves%76 != 20 {
				continue
			}
			k := open(t, c)
			fields := c.W - 8
			if leaves > 0 {
				fields = leaves * (c.W - 1)
			}
			steps := c.N
			for pool.Len(k.g) > leaves {
				r := k.born(t, fields, 0)
				steps += fields + 2
				for i := range fields {
					k.setField(r, i, r)
				}
			}
			k.begin()
			n := 0
			for flood.Step(k.g) {
				n++
			}
			if n != steps || n > c.N*(c.W+2) {
				t.Errorf("%v: %d steps, not %d", c, n, steps)
			}
			for _, r := range k.objects() {
				if !tint.Black(k.g, r) {
					t.Errorf("%v: %d isn't black", c, r)
				}
			}
			k.read()
			k.ended(t)
		}
	}
}

// P17.2: objects through all blocks, each of which names the next one, in a round, forth or back: where one of them is held all are black, where none is none.
func TestRows(t *testing.T) {
	for form := range 2 {
		for held := range 2 {
			k := open(t, some)
			var l []int
			for range some.N {
				l = append(l, k.born(t, 1, 0))
			}
			if form == 1 {
				slices.Reverse(l)
			}
			for i, r := range l {
				link.Put(k.g, r, 0, l[(i+1)%len(l)])
			}
			for _, r := range l[held:] {
				link.Let(k.g, r)
			}
			k.beginCounted()
			k.whole(t)
			for _, r := range l {
				if tint.Black(k.g, r) != (held == 1) {
					t.Errorf("%d, %d: of %d black is %v", form, held, r, tint.Black(k.g, r))
				}
			}
		}
	}
}

// mutator holds objects, and does what it can by them.
type mutator struct {
	*kept
	holds map[int]int
	by    func(int) int
}

// held answers the objects that are held.
func (m *mutator) held() []int {
	var l []int
	for r, n := range m.holds {
		if n > 0 {
			l = append(l, r)
		}
	}
	slices.Sort(l)
	return l
}

// any answers one of the objects that are held, 0 where there are none.
func (m *mutator) any() int {
	l := m.held()
	if len(l) == 0 {
		return 0
	}
	return l[m.by(len(l))]
}

// do does something that a mutator may do, and tells where it can't.
func (m *mutator) do(t *testing.T) {
	t.Helper()
	r := m.any()
	nptr, _, _ := obj.Lens(m.g, r)
	done := true
	switch n := m.by(12); {
	case n < 2 || r == 0:
		m.bear()
	case n < 5:
		m.holds[r]--
		done = link.Let(m.g, r)
	case n == 5:
		m.holds[r]++
		done = link.Hold(m.g, r)
	case n < 8 && nptr > 0:
		if x, _ := link.Get(m.g, r, m.by(nptr)); x != 0 {
			m.holds[x]++
			done = link.Hold(m.g, x)
		}
	case nptr > 0:
		x := m.any()
		if n == 8 {
			x = 0
		}
		done = link.Put(m.g, r, m.by(nptr), x) == api.OK
	}
	if !done {
		t.Fatalf("%v: what a mutator may do isn't done", m.c)
	}
}

// bear has some object born, if there is room.
func (m *mutator) bear() {
	n := m.by(m.c.W - 7)
	if m.by(3) == 0 {
		n = m.by(3 * m.c.W)
	}
	nptr := m.by(n + 1)
	if r, err := link.Born(m.g, nptr, n-nptr); err == api.OK {
		m.holds[r]++
	}
}

// meddle lets the mutator do something now and then, up to so often, and drains between.
func (m *mutator) meddle(t *testing.T, often int) {
	t.Helper()
	for range m.by(often) / 2 {
		m.do(t)
		for range m.by(3) {
			grave.Step(m.g)
		}
	}
	m.read()
}

// P17.3: whatever is born, held, let, put and drained between the steps of count and flood: once there is no step any more, whoever can be reached from a hold is black; and so again, if the mutator goes on then.
func TestAnyCalls(t *testing.T) {
	for _, c := range []api.Conf{{N: 1, W: 16, R: 1, K: 1}, {N: 4, W: 16, R: 1, K: 1}, small, {N: 24, W: 17, R: 3, K: 1}} {
		byFields, left := 0, 0
		for seed := range 150 {
			m := &mutator{open(t, c), map[int]int{}, chance(uint32(c.N*1000 + seed))}
			for range 4 * c.N {
				m.do(t)
				for range m.by(1 + seed%4) {
					grave.Step(m.g)
				}
			}
			for range 3 {
				some, others := m.epoch(t, 1+seed%7)
				byFields, left = byFields+some, left+others
			}
		}
		if c.N > 1 && (byFields < 50 || left < 50) {
			t.Errorf("%v: %d objects are reached by fields alone, %d are not black: that tells too little", c, byFields, left)
		}
	}
}

// epoch does a whole count and a whole flood, with something of the mutator behind some of the steps, and answers how many were reached by fields alone, and how many aren't black.
func (m *mutator) epoch(t *testing.T, often int) (byFields, left int) {
	t.Helper()
	for _, r := range m.objects() {
		tint.Dye(m.g, r)
	}
	tint.Turn(m.g)
	tint.Begin(m.g, api.Counting)
	for tally.Step(m.g) {
		m.meddle(t, often)
	}
	tint.Begin(m.g, api.Flooding)
	m.read()
	for range 3 {
		for m.step(t) {
			m.meddle(t, often)
		}
		m.ended(t)
		byFields += m.isBlack(t)
		m.meddle(t, 2*often)
	}
	for m.step(t) {
	}
	for _, r := range m.objects() {
		if !tint.Dead(m.g, r) && !tint.Black(m.g, r) {
			left++
		}
	}
	tint.Begin(m.g, api.Idle)
	return byFields, left
}

// isBlack tells where one that can be reached from a hold isn't black, or is dead, and answers how many could be reached by fields alone.
func (m *mutator) isBlack(t *testing.T) int {
	t.Helper()
	n := 0
	for r := range m.reached(m.held(), func(int) bool { return false }) {
		if !tint.Black(m.g, r) || tint.Dead(m.g, r) {
			t.Fatalf("%v: %d can be reached, and isn't black, or is dead", m.c, r)
		}
		if m.holds[r] == 0 {
			n++
		}
	}
	return n
}

// P17.3: one that only an object has that isn't come to yet is put into one that was scanned already, and is taken away from there, or held: behind each number of steps.
func TestHiddenMidway(t *testing.T) {
	for form := range 3 {
		for steps := range 40 {
			k := open(t, small)
			a, b, x, y := k.born(t, 1, 0), k.born(t, 1, 0), k.born(t, 1, 0), k.born(t, 0, 0)
			link.Put(k.g, b, 0, x)
			link.Put(k.g, x, 0, y)
			link.Let(k.g, x)
			link.Let(k.g, y)
			k.beginCounted()
			for range steps {
				k.step(t)
			}
			if form == 0 {
				link.Hold(k.g, x)
			} else if got, _ := link.Get(k.g, b, 0); got != x || !link.Hold(k.g, x) || link.Put(k.g, a, 0, x) != api.OK || !link.Let(k.g, x) {
				t.Fatalf("%d is got", got)
			}
			link.Put(k.g, b, 0, 0)
			if form == 2 {
				link.Let(k.g, b)
			}
			k.read()
			k.whole(t)
			for _, r := range []int{a, x, y} {
				if !tint.Black(k.g, r) || tint.Dead(k.g, r) {
					t.Errorf("%d, %d steps: %d isn't black", form, steps, r)
				}
			}
		}
	}
}

// P17.3: at the greatest N and W: a row through all objects, of which the first one alone is held, and as many that name themselves alone.
func TestGreatest(t *testing.T) {
	for _, c := range []api.Conf{{N: 262144, W: 16, R: 4096, K: 1}, {N: 16384, W: 256, R: 1, K: 65536}} {
		g, err := ground.New(c)
		if err != api.OK || !pool.Open(g) {
			t.Fatal(err)
		}
		ahead := 0
		for i := range c.N {
			r, _ := link.Born(g, 1, 0)
			x := r
			if i%2 == 0 {
				x = ahead
				ahead = r
			}
			link.Put(g, r, 0, x)
			link.Let(g, x)
		}
		tint.Turn(g)
		tint.Begin(g, api.Counting)
		for tally.Step(g) {
		}
		tint.Begin(g, api.Flooding)
		for flood.Step(g) {
		}
		for r := 1; r <= c.N; r++ {
			if tint.Black(g, r) != (r%2 == 1) {
				t.Fatalf("%v: of %d black is %v", c, r, tint.Black(g, r))
			}
		}
	}
}
