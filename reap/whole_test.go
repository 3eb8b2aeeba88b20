package reap_test

import (
	"slices"
	"testing"

	"quitrent/api"
	"quitrent/count"
	"quitrent/flood"
	"quitrent/grave"
	"quitrent/ground"
	"quitrent/link"
	"quitrent/obj"
	"quitrent/pool"
	"quitrent/reap"
	"quitrent/ring"
	"quitrent/tally"
	"quitrent/tint"
)

// objects answers the references of all objects.
func (k *kept) objects() []int {
	var l []int
	for r := 1; r <= k.c.N; r++ {
		if _, ok := obj.See(k.g, r); ok {
			l = append(l, r)
		}
	}
	return l
}

// fromOutside answers how many names each object has that no field is.
func (k *kept) fromOutside() map[int]int {
	n := map[int]int{}
	for _, r := range k.objects() {
		n[r] += count.See(k.g, r)
		o, _ := obj.See(k.g, r)
		for _, x := range o.Ptrs {
			n[x]--
		}
	}
	return n
}

// reached answers who is reached from these objects by fields, they themselves too, as they are seen.
func (k *kept) reached(from []int) map[int]api.Object {
	met := map[int]api.Object{}
	todo := slices.Clone(from)
	for len(todo) > 0 {
		r := todo[0]
		todo = todo[1:]
		o, ok := obj.See(k.g, r)
		if _, again := met[r]; again || !ok {
			continue
		}
		met[r] = o
		todo = append(todo, o.Ptrs...)
	}
	return met
}

// epoch does a whole count, a whole flood, a whole reaping and all steps of the grave, and tells where not just those are left that have to be.
func (k *kept) epoch(t *testing.T) {
	t.Helper()
	outside := k.fromOutside()
	var from []int
	for _, r := range k.objects() {
		if !tint.Dead(k.g, r) && outside[r] > 0 {
			from = append(from, r)
		}
	}
	want := k.reached(from)
	k.beginFlooded()
	k.whole(t)
	for grave.Step(k.g) {
	}
	k.isLeft(t, want, outside)
	tint.Begin(k.g, api.Idle)
	k.read()
}

// isLeft tells where not just these objects are left, with the fields and the names from outside that they had, black all of them, and all other blocks clean.
func (k *kept) isLeft(t *testing.T, want map[int]api.Object, outside map[int]int) {
	t.Helper()
	blocks, now := 0, k.fromOutside()
	for r := 1; r <= k.c.N; r++ {
		had, stays := want[r]
		o, ok := obj.See(k.g, r)
		if ok != stays {
			t.Fatalf("%v: of %d left is %v", k.c, r, ok)
		}
		if !ok {
			continue
		}
		if !slices.Equal(o.Ptrs, had.Ptrs) || !slices.Equal(o.Data, had.Data) || now[r] != outside[r] {
			t.Fatalf("%v: %d was %v, and is %v, named %d times from outside, not %d", k.c, r, had, o, now[r], outside[r])
		}
		if tint.Dead(k.g, r) || !tint.Black(k.g, r) || !tint.Counted(k.g, r, 0) {
			t.Fatalf("%v: %d is dead, or not black", k.c, r)
		}
		blocks += obj.Blocks(k.g, r)
	}
	if pool.Len(k.g) != k.c.N-blocks || grave.Pending(k.g) != 0 || ring.Len(k.g) != 0 {
		t.Fatalf("%v: %d blocks are clean, %d pending, the ring is %v", k.c, pool.Len(k.g), grave.Pending(k.g), ring.List(k.g))
	}
}

// P18.2: objects of all kinds that name each other in any way, with any counts, some of them black or dead ahead, some in the ring: a whole reaping, at either parity, held against plain words behind each step.
func TestWholeOfAny(t *testing.T) {
	for _, c := range confs {
		for seed := range 1 + 400/c.W {
			k, by := open(t, c), chance(uint32(seed))
			l := k.some(t)
			start := k.g.Words()
			for n := range 2 {
				k.load(start)
				k.fill(l, by)
				k.counts(l, 1+40*n, by)
				k.begin()
				for _, r := range l {
					switch by(6) {
					case 0:
						tint.Paint(k.g, r)
					case 1:
						tint.Kill(k.g, r)
					case 2:
						tint.Touch(k.g, r)
					}
				}
				k.read()
				k.whole(t)
				for _, r := range k.objects() {
					if !tint.Dead(k.g, r) && !tint.Black(k.g, r) {
						t.Errorf("%v: %d is neither dead nor black", c, r)
					}
				}
			}
		}
	}
}

// P18.2: as many objects, and as many fields, as so many blocks can have: there are not more steps than N times W; fewer, where one is buried midway.
func TestMostSteps(t *testing.T) {
	for _, c := range []api.Conf{{N: 1, W: 16, R: 1, K: 1}, small, some, {N: 249, W: 256, R: 1, K: 1}} {
		for leaves := range min(c.N, c.W-7) {
			// Of many it is enough to take some.
			if leaves > 20 && leaves%76 != 20 {
				continue
			}
			for names := range 3 {
				k := open(t, c)
				fields := c.W - 8
				if leaves > 0 {
					fields = leaves * (c.W - 1)
				}
				steps := 0
				for pool.Len(k.g) > leaves {
					r := k.born(t, fields, 0)
					for i := range fields {
						k.setField(r, i, r)
					}
					// Its last field's name is the last one, or none is, or the first one's.
					k.set(r, countAt, []int{fields, fields + 1, 1}[names])
					steps += []int{fields, fields, 1}[names] + 1 + leaves
				}
				steps += pool.Len(k.g)
				k.begin()
				n := 0
				for reap.Step(k.g) {
					n++
				}
				if n != steps || n > c.N*c.W {
					t.Errorf("%v: %d steps, not %d", c, n, steps)
				}
				for _, r := range k.objects() {
					if tint.Dead(k.g, r) != (names != 1) || tint.Black(k.g, r) != (names == 1) {
						t.Errorf("%v: %d is dead: %v", c, r, tint.Dead(k.g, r))
					}
				}
			}
		}
	}
}

// P18.3: objects through all blocks, each of which names the next one, in a round, forth or back: where one of them is held all are left, where none is none.
func TestRounds(t *testing.T) {
	for form := range 2 {
		for held := range 2 {
			k := open(t, some)
			var l []int
			for range some.N {
				l = append(l, k.born(t, 1, 0))
			}
			if form == 1 {
				slices.Reverse(l)
			}
			for i, r := range l {
				k.name(t, r, 0, l[(i+1)%len(l)])
			}
			for _, r := range l[held:] {
				k.let(t, r)
			}
			k.epoch(t)
			if n := len(k.objects()); n != held*some.N {
				t.Errorf("%d: %d are left", form, n)
			}
		}
	}
}

// P18.3: of two rounds one names the other, or each does, and one, none or both are held.
func TestTwoRounds(t *testing.T) {
	for form := range 1 << 4 {
		k := open(t, some)
		var rounds [2][]int
		for i := range rounds {
			for range 4 {
				rounds[i] = append(rounds[i], k.born(t, 2, 20*i))
			}
		}
		for i, l := range rounds {
			for j, r := range l {
				k.name(t, r, 0, l[(j+1)%4])
			}
			if form>>i&1 == 1 {
				k.name(t, l[i], 1, rounds[1-i][3])
			}
			for _, r := range l[form>>(2+i)&1:] {
				k.let(t, r)
			}
		}
		k.epoch(t)
		held := [2]bool{form>>2&1 == 1, form>>3&1 == 1}
		for i, l := range rounds {
			stays := held[i] || held[1-i] && form>>(1-i)&1 == 1
			for _, r := range l {
				if obj.Is(k.g, r) != stays {
					t.Errorf("%d: of %d left is %v", form, r, obj.Is(k.g, r))
				}
			}
		}
	}
}

// P18.3: one that was dead ahead, and was drained in part, names some: who has no other name is gone, also in a round, who has is left.
func TestDeadAhead(t *testing.T) {
	for drains := range 9 {
		k := open(t, some)
		r, row, round, held := k.born(t, 6, 0), k.born(t, 1, 0), k.born(t, 2, 12), k.born(t, 1, 1)
		for i, x := range []int{held, row, round, held, round, round} {
			k.name(t, r, i, x)
		}
		k.name(t, round, 0, round)
		k.name(t, round, 1, row)
		k.name(t, row, 0, held)
		for _, x := range []int{row, round, r} {
			k.let(t, x)
		}
		for range drains {
			grave.Step(k.g)
		}
		k.epoch(t)
		if l := k.objects(); !slices.Equal(l, []int{held}) || count.Of(k.g, held) != 1 {
			t.Errorf("%d: left are %v", drains, l)
		}
	}
}

// P18.3: whoever else has a name of an object but a field keeps it: a count alone tells so.
func TestCounted(t *testing.T) {
	for more := range 3 {
		k := open(t, small)
		r, x := k.born(t, 2, 0), k.born(t, 0, 9)
		k.name(t, r, 0, r)
		k.name(t, r, 1, x)
		k.let(t, x)
		k.let(t, r)
		for range more {
			count.Up(k.g, r)
		}
		for range 3 {
			k.epoch(t)
			if obj.Is(k.g, r) != (more > 0) || obj.Is(k.g, x) != (more > 0) {
				t.Errorf("%d: left are %v", more, k.objects())
			}
		}
	}
}

// mutator holds objects, knows what it put into their fields, and does what it can by them.
type mutator struct {
	*kept
	holds  map[int]int
	fields map[int][]int
	by     func(int) int
}

// start answers a mutator on a new ground.
func start(t *testing.T, c api.Conf, seed int) *mutator {
	t.Helper()
	return &mutator{open(t, c), map[int]int{}, map[int][]int{}, chance(uint32(c.N*1000 + seed))}
}

// held answers the objects that are held.
func (m *mutator) held() []int {
	var l []int
	for r, n := range m.holds {
		if n > 0 {
			l = append(l, r)
		}
	}
	slices.Sort(l)
	return l
}

// any answers one of the objects that are held, 0 where there are none.
func (m *mutator) any() int {
	l := m.held()
	if len(l) == 0 {
		return 0
	}
	return l[m.by(len(l))]
}

// do does something that a mutator may do, and tells where it can't.
func (m *mutator) do(t *testing.T) {
	t.Helper()
	r := m.any()
	nptr := len(m.fields[r])
	done := true
	switch n := m.by(12); {
	case n < 2 || r == 0:
		m.bear()
	case n < 5:
		m.holds[r]--
		done = link.Let(m.g, r)
	case n == 5:
		m.holds[r]++
		done = link.Hold(m.g, r)
	case n < 8 && nptr > 0:
		if x, _ := link.Get(m.g, r, m.by(nptr)); x != 0 {
			m.holds[x]++
			done = link.Hold(m.g, x)
		}
	case nptr > 0:
		x, i := m.any(), m.by(nptr)
		if n == 8 {
			x = 0
		}
		m.fields[r][i] = x
		done = link.Put(m.g, r, i, x) == api.OK
	}
	if !done {
		t.Fatalf("%v: what a mutator may do isn't done", m.c)
	}
}

// bear has some object born, if there is room.
func (m *mutator) bear() {
	n := m.by(m.c.W - 7)
	if m.by(3) == 0 {
		n = m.by(3 * m.c.W)
	}
	nptr := m.by(n + 1)
	if r, err := link.Born(m.g, nptr, n-nptr); err == api.OK {
		m.holds[r]++
		m.fields[r] = make([]int, nptr)
	}
}

// live lets the mutator do much, and drains now and then.
func (m *mutator) live(t *testing.T, often int) {
	t.Helper()
	for range 4 * m.c.N {
		m.do(t)
		for range m.by(often) {
			grave.Step(m.g)
		}
	}
	m.read()
}

// meddle lets the mutator do something now and then, up to so often, and drains between.
func (m *mutator) meddle(t *testing.T, often int) {
	t.Helper()
	for range m.by(often) / 2 {
		m.do(t)
		for range m.by(3) {
			grave.Step(m.g)
		}
	}
	m.read()
}

// lost answers how many objects are neither dead nor reached from a hold.
func (m *mutator) lost() int {
	n, met := 0, m.reached(m.held())
	for _, r := range m.objects() {
		if _, ok := met[r]; !ok && !tint.Dead(m.g, r) {
			n++
		}
	}
	return n
}

// P18.3: whatever a mutator did, with the grave drained in part or not: behind a whole count, flood and reaping, and all steps of the grave, just those are left that can be reached from a hold; and so epoch for epoch.
func TestEpochs(t *testing.T) {
	for _, c := range []api.Conf{{N: 1, W: 16, R: 1, K: 1}, {N: 4, W: 16, R: 1, K: 1}, small, {N: 24, W: 17, R: 3, K: 1}} {
		lost, pends, byFields := 0, 0, 0
		for seed := range 150 {
			m := start(t, c, seed)
			for range 3 {
				m.live(t, 1+seed%4)
				lost, pends = lost+m.lost(), pends+min(grave.Pending(m.g), 1)
				m.epoch(t)
				held := m.held()
				met := m.reached(held)
				if l := m.objects(); len(l) != len(met) {
					t.Fatalf("%v: left are %v, but can be reached %v", c, l, met)
				}
				byFields += len(met) - len(held)
			}
		}
		if c.N > 1 && min(lost, pends, byFields) < 20 {
			t.Errorf("%v: %d are lost, %d graves aren't empty, %d are reached by fields alone: that tells too little", c, lost, pends, byFields)
		}
	}
}

// P18.1, P18.3: whatever is born, held, let, put and drained between the steps of count, flood and reaping: each step is as it has to be, whoever can be reached from a hold is left, with what was put into its fields last; and behind one more epoch, with nothing done between, just those are.
func TestAnyCalls(t *testing.T) {
	for _, c := range []api.Conf{{N: 1, W: 16, R: 1, K: 1}, {N: 4, W: 16, R: 1, K: 1}, small, {N: 24, W: 17, R: 3, K: 1}} {
		emptied := 0
		for seed := range 150 {
			m := start(t, c, seed)
			for range 3 {
				m.live(t, 1+seed%4)
				emptied += m.meddledEpoch(t, 1+seed%7)
			}
			m.epoch(t)
			if n := m.lost(); n != 0 {
				t.Fatalf("%v: %d are lost", c, n)
			}
		}
		if c.N > 1 && emptied < 50 {
			t.Errorf("%v: %d fields were emptied: that tells too little", c, emptied)
		}
	}
}

// meddledEpoch does an epoch with something of the mutator behind some of its steps, and answers how many steps were those of fields.
func (m *mutator) meddledEpoch(t *testing.T, often int) int {
	t.Helper()
	tint.Turn(m.g)
	tint.Begin(m.g, api.Counting)
	for tally.Step(m.g) {
		m.meddle(t, often)
	}
	tint.Begin(m.g, api.Flooding)
	for flood.Step(m.g) {
		m.meddle(t, often)
	}
	tint.Begin(m.g, api.Reaping)
	m.read()
	n := 0
	for m.step(t) {
		if _, f := tint.At(m.g); f > 0 {
			n++
		}
		m.meddle(t, often)
		m.isThere(t)
	}
	tint.Begin(m.g, api.Idle)
	m.read()
	return n
}

// isThere tells where one that can be reached from a hold is dead, or has other fields than were put there.
func (m *mutator) isThere(t *testing.T) {
	t.Helper()
	for _, r := range m.held() {
		if !obj.Is(m.g, r) {
			t.Fatalf("%v: %d is held, and gone", m.c, r)
		}
	}
	for r, o := range m.reached(m.held()) {
		if tint.Dead(m.g, r) || !slices.Equal(o.Ptrs, m.fields[r]) {
			t.Fatalf("%v: %d has %v, not %v, or is dead", m.c, r, o.Ptrs, m.fields[r])
		}
	}
}

// P18.1: one whose fields are emptied in part is buried, as its last name ends elsewhere, and another one is born in its block: that one is black, so it is passed by, wherever the cursor's field is.
func TestBornMidway(t *testing.T) {
	for fields := 1; fields < 5; fields++ {
		k := open(t, small)
		r := k.born(t, 5, 0)
		for i := range 5 {
			k.name(t, r, i, r)
		}
		k.begin()
		for i := range fields {
			k.must(t, 0, i+1)
		}
		for i := fields; i < 5; i++ {
			k.name(t, r, i, 0)
		}
		k.let(t, r)
		for grave.Step(k.g) {
		}
		if again := k.born(t, 5, 0); again != r {
			t.Fatalf("%d is born, not %d", again, r)
		}
		k.name(t, r, 4, r)
		k.must(t, 1, 0)
		if x, _ := obj.Ptr(k.g, r, 4); x != r || count.Of(k.g, r) != 2 {
			t.Errorf("it names %d", x)
		}
	}
}

// P18.3: at the greatest N and W: a row through all objects, of which the first one alone is held, and as many that name themselves alone.
func TestGreatest(t *testing.T) {
	for _, c := range []api.Conf{{N: 262144, W: 16, R: 4096, K: 1}, {N: 16384, W: 256, R: 1, K: 65536}} {
		g, err := ground.New(c)
		if err != api.OK || !pool.Open(g) {
			t.Fatal(err)
		}
		k := &kept{g: g, c: c}
		ahead := 0
		for i := range c.N {
			r, _ := link.Born(g, 1, 0)
			x := r
			if i%2 == 0 {
				x = ahead
				ahead = r
			}
			link.Put(g, r, 0, x)
			link.Let(g, x)
		}
		k.beginFlooded()
		for reap.Step(g) {
		}
		for grave.Step(g) {
		}
		for r := 1; r <= c.N; r++ {
			if obj.Is(g, r) != (r%2 == 1) {
				t.Fatalf("%v: of %d left is %v", c, r, obj.Is(g, r))
			}
		}
	}
}
