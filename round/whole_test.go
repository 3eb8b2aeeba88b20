package round_test

import (
	"maps"
	"slices"
	"testing"

	"quitrent/api"
	"quitrent/count"
	"quitrent/grave"
	"quitrent/link"
	"quitrent/obj"
	"quitrent/pool"
	"quitrent/ring"
	"quitrent/round"
	"quitrent/tint"
)

// mutator holds objects, knows what it put into their fields, and does what it can by them.
type mutator struct {
	*kept
	holds map[int]int
	has   map[int]api.Object
}

// start answers a mutator on a new ground.
func start(t *testing.T, c api.Conf) *mutator {
	t.Helper()
	return &mutator{open(t, c), map[int]int{}, map[int]api.Object{}}
}

// epoch answers how many units an epoch has at most.
func (m *mutator) epoch() int {
	return 3*m.c.N*(m.c.W+1) + 4
}

// did tells where something that a mutator may do isn't done.
func (m *mutator) did(t *testing.T, ok bool) {
	t.Helper()
	if !ok {
		t.Fatalf("%v: what a mutator may do isn't done", m.c)
	}
}

// hold holds an object once more.
func (m *mutator) hold(t *testing.T, r int) {
	t.Helper()
	m.holds[r]++
	m.did(t, link.Hold(m.g, r))
	m.read()
}

// letGo lets an object that is held.
func (m *mutator) letGo(t *testing.T, r int) {
	t.Helper()
	if m.holds[r]--; m.holds[r] == 0 {
		delete(m.holds, r)
	}
	m.did(t, link.Let(m.g, r))
	m.read()
}

// get holds what a field of an object that is held has, and answers it.
func (m *mutator) get(t *testing.T, r, i int) int {
	t.Helper()
	x, err := link.Get(m.g, r, i)
	m.did(t, err == api.OK)
	if x != 0 {
		m.hold(t, x)
	}
	return x
}

// put puts what is held, or nothing, into a field of an object that is held.
func (m *mutator) put(t *testing.T, r, i, x int) {
	t.Helper()
	m.has[r].Ptrs[i] = x
	m.did(t, link.Put(m.g, r, i, x) == api.OK)
	m.read()
}

// write makes v a word of an object that is held.
func (m *mutator) write(t *testing.T, r, i int, v uint32) {
	t.Helper()
	m.has[r].Data[i] = v
	m.did(t, obj.SetData(m.g, r, i, v) == api.OK)
	m.read()
}

// bear is given a new object, and tells whether there is room.
func (m *mutator) bear(nptr, ndata int) (int, bool) {
	r, err := link.Born(m.g, nptr, ndata)
	if err != api.OK {
		return 0, false
	}
	m.holds[r]++
	m.has[r] = api.Object{Ptrs: make([]int, nptr), Data: make([]uint32, ndata)}
	m.read()
	return r, true
}

// given is given a new object for which there is room.
func (m *mutator) given(t *testing.T, nptr, ndata int) int {
	t.Helper()
	r, ok := m.bear(nptr, ndata)
	m.did(t, ok)
	return r
}

// drain does steps of the grave, up to so many.
func (m *mutator) drain(n int) {
	for range n {
		if !grave.Step(m.g) {
			break
		}
	}
	m.read()
}

// held answers the objects that are held.
func (m *mutator) held() []int {
	return slices.Sorted(maps.Keys(m.holds))
}

// reached answers who can be reached from a hold, by what was put into fields.
func (m *mutator) reached() map[int]bool {
	met := map[int]bool{}
	todo := m.held()
	for len(todo) > 0 {
		r := todo[len(todo)-1]
		todo = todo[:len(todo)-1]
		if r != 0 && !met[r] {
			met[r] = true
			todo = append(todo, m.has[r].Ptrs...)
		}
	}
	return met
}

// objects answers the references of all objects.
func (m *mutator) objects() []int {
	var l []int
	for r := 1; r <= m.c.N; r++ {
		if _, ok := obj.See(m.g, r); ok {
			l = append(l, r)
		}
	}
	return l
}

// isThere tells where one that can be reached from a hold is gone, dead, or has other fields than were put there, and answers who can be reached.
func (m *mutator) isThere(t *testing.T) map[int]bool {
	t.Helper()
	met := m.reached()
	for r := range met {
		o, ok := obj.See(m.g, r)
		want := m.has[r]
		if !ok || tint.Dead(m.g, r) || !slices.Equal(o.Ptrs, want.Ptrs) || !slices.Equal(o.Data, want.Data) {
			t.Fatalf("%v: %d is there %v, dead %v, and has %v, not %v", m.c, r, ok, tint.Dead(m.g, r), o, want)
		}
	}
	return met
}

// unitOf does a unit, tells where it isn't as it has to be or an epoch has more than it may, and tells whether there is one.
func (m *mutator) unitOf(t *testing.T) bool {
	t.Helper()
	ok := m.step(t)
	if n := int(m.words[units]); ok && n > m.epoch() {
		t.Fatalf("%v: an epoch has %d units", m.c, n)
	}
	return ok
}

// isFound does twice as many units as an epoch has, and all steps of the grave, and tells where not just those are left that can be reached, as often named as they are, all other blocks are clean, and all is quiet.
func (m *mutator) isFound(t *testing.T) {
	t.Helper()
	round.Run(m.g, 2*m.epoch())
	for grave.Step(m.g) {
	}
	m.read()
	met := m.isThere(t)
	names := maps.Clone(m.holds)
	blocks := 0
	for r := range met {
		for _, x := range m.has[r].Ptrs {
			names[x]++
		}
		blocks += obj.Blocks(m.g, r)
	}
	for r := 1; r <= m.c.N; r++ {
		if obj.Is(m.g, r) != met[r] || met[r] && count.Of(m.g, r) != names[r] {
			t.Fatalf("%v: of %d left is %v, counted %d, not %d", m.c, r, obj.Is(m.g, r), count.Of(m.g, r), names[r])
		}
	}
	if pool.Len(m.g) != m.c.N-blocks || grave.Pending(m.g) != 0 || ring.Len(m.g) != 0 || !round.Quiet(m.g) {
		t.Fatalf("%v: %d blocks are clean, %d pending, the ring is %v", m.c, pool.Len(m.g), grave.Pending(m.g), ring.List(m.g))
	}
}

// any answers one of the objects that are held, 0 where there are none.
func (m *mutator) any(by func(int) int) int {
	l := m.held()
	if len(l) == 0 {
		return 0
	}
	return l[by(len(l))]
}

// do does something that a mutator may do.
func (m *mutator) do(t *testing.T, by func(int) int) {
	t.Helper()
	r := m.any(by)
	nptr, ndata := len(m.has[r].Ptrs), len(m.has[r].Data)
	switch n := by(13); {
	case n < 2 || r == 0:
		m.bearAny(by)
	case n < 5:
		m.letGo(t, r)
	case n == 5:
		m.hold(t, r)
	case n == 6 && ndata > 0:
		m.write(t, r, by(ndata), uint32(1+by(m.c.N)))
	case n < 9 && nptr > 0:
		m.get(t, r, by(nptr))
	case n == 9 && nptr > 0:
		m.put(t, r, by(nptr), 0)
	case nptr > 0:
		m.put(t, r, by(nptr), m.any(by))
	}
}

// bearAny is given some object, if there is room.
func (m *mutator) bearAny(by func(int) int) {
	n := by(m.c.W - 7)
	if by(3) == 0 {
		n = by(3 * m.c.W)
	}
	nptr := by(n + 1)
	m.bear(nptr, n-nptr)
}

// lost answers how many objects are neither dead nor reached from a hold.
func (m *mutator) lost() int {
	n, met := 0, m.reached()
	for _, r := range m.objects() {
		if !met[r] && !tint.Dead(m.g, r) {
			n++
		}
	}
	return n
}

// P19.3, P19.4, P19.5: whatever a mutator does between the units, and whatever is drained: each unit is as it has to be, no epoch has more of them than it may, who can be reached is there; and behind twice as many units, and the grave's steps, just those are left. Then the mutator goes on.
func TestAnyCalls(t *testing.T) {
	for _, c := range []api.Conf{{N: 1, W: 16, R: 1, K: 1}, {N: 4, W: 16, R: 1, K: 1}, small, {N: 24, W: 17, R: 3, K: 1}} {
		lost, pends, ended, amid := 0, 0, 0, [4]int{}
		for seed := range 80 {
			m, by := start(t, c), chance(uint32(c.N*1000+seed))
			for range 4 {
				for range 20 + 10*c.N {
					m.meddle(t, by, seed)
				}
				lost, pends = lost+m.lost(), pends+min(grave.Pending(m.g), 1)
				ended += int(m.words[epochs])
				amid[m.words[phase]]++
				m.isFound(t)
			}
		}
		if c.N > 1 && min(lost, pends, ended, slices.Min(amid[:])) < 20 {
			t.Errorf("%v: %d are lost, %d graves aren't empty, %d epochs ended, in the phases were %v: that tells too little", c, lost, pends, ended, amid)
		}
	}
}

// meddle lets the mutator do something, and does some steps of the grave and some units, of each as many as the seed says, or fewer.
func (m *mutator) meddle(t *testing.T, by func(int) int, seed int) {
	t.Helper()
	for range by(2 + seed%5) {
		m.do(t, by)
	}
	m.drain(by(1 + 3*(seed/5%3)))
	for range by(2 + 5*(seed/15%4)) {
		m.unitOf(t)
	}
	m.isThere(t)
}

// P19.4, P19.5: whatever a mutator did ahead of an epoch: while the epoch goes on it takes no name away, so that no other epoch follows; the grave is drained between the units, and all that was lost ahead is found by this one.
func TestNothingTaken(t *testing.T) {
	for _, c := range []api.Conf{{N: 4, W: 16, R: 1, K: 1}, small, {N: 24, W: 17, R: 3, K: 1}} {
		lost, pends := 0, 0
		for seed := range 150 {
			m, by := start(t, c), chance(uint32(c.N*2000+seed))
			for range 3 {
				for range 20 + 4*c.N {
					m.do(t, by)
				}
				m.drain(by(4))
				lost, pends = lost+m.lost(), pends+min(grave.Pending(m.g), 1)
				m.setReg(suspicion, 1)
				m.must(t)
				for range by(m.epoch()) {
					m.drain(by(3) / 2)
					m.add(t, by)
					if !m.unitOf(t) {
						break
					}
				}
				if link.Suspect(m.g) {
					t.Fatalf("%v: a name was taken away", c)
				}
				m.isFound(t)
			}
		}
		if min(lost, pends) < 20 {
			t.Errorf("%v: %d are lost, %d graves aren't empty: that tells too little", c, lost, pends)
		}
	}
}

// add does now and then something that a mutator may do and that takes no name away.
func (m *mutator) add(t *testing.T, by func(int) int) {
	t.Helper()
	r := m.any(by)
	nptr := len(m.has[r].Ptrs)
	switch n := by(30); {
	case n == 0:
		m.bearAny(by)
	case n == 1 && r != 0:
		m.hold(t, r)
	case n == 2 && nptr > 0:
		m.get(t, r, by(nptr))
	case n == 3 && nptr > 0:
		if i := by(nptr); m.has[r].Ptrs[i] == 0 {
			m.put(t, r, i, m.any(by))
		}
	}
}

// P19.3: a mutator that does much behind each unit, so that blocks are given and taken all the time: each epoch ends, with no more units than it may have.
func TestChurn(t *testing.T) {
	for _, c := range []api.Conf{{N: 4, W: 16, R: 1, K: 1}, small, {N: 24, W: 17, R: 3, K: 1}} {
		for seed := range 20 {
			m, by := start(t, c), chance(uint32(seed))
			for range 2 * m.epoch() {
				for range 1 + by(8) {
					m.do(t, by)
				}
				m.drain(by(40))
				m.unitOf(t)
			}
			if n := m.words[epochs] - 500 - epochs; n < 2 {
				t.Errorf("%v: %d epochs ended", c, n)
			}
			m.isThere(t)
			m.isFound(t)
		}
	}
}

// P19.3: objects of as many fields as so many blocks can have, all of them held, or none, or touched in the midst: no epoch has more units than it may.
func TestMostUnits(t *testing.T) {
	for _, c := range []api.Conf{{N: 1, W: 16, R: 1, K: 1}, small, {N: 40, W: 18, R: 1, K: 1}} {
		for leaves := range min(c.N, c.W-7) {
			fields := c.W - 8
			if leaves > 0 {
				fields = leaves * (c.W - 1)
			}
			for form := range 3 {
				m := start(t, c)
				var l []int
				for pool.Len(m.g) > leaves {
					l = append(l, m.given(t, fields, 0))
				}
				for i, r := range l {
					for j := range fields {
						m.put(t, r, j, l[(i+j)%len(l)])
					}
				}
				m.setReg(suspicion, 1)
				n := 0
				for ; m.unitOf(t); n++ {
					if n == form*m.epoch()/6 {
						for _, r := range l {
							m.letGo(t, r)
						}
						m.setReg(suspicion, 0)
					}
				}
				if n > m.epoch() || round.Units(m.g) != n {
					t.Errorf("%v: %d units", c, n)
				}
				m.setReg(suspicion, 1)
				m.isFound(t)
			}
		}
	}
}

// script is what a mutator does with a row of objects, one piece behind the other.
type script struct {
	name   string
	pieces []func(t *testing.T, m *mutator, l []int)
}

// row has four objects born of which each names the next one, but for the third, and lets all but the first and the last; the first one is that of the first block, or of the last.
func (m *mutator) row(t *testing.T, back bool) []int {
	t.Helper()
	var l []int
	for range 4 {
		l = append(l, m.given(t, 2, 1))
	}
	if back {
		slices.Reverse(l)
	}
	for i, r := range l[1:] {
		m.put(t, l[i], 0, r)
	}
	m.put(t, l[2], 0, 0)
	m.letGo(t, l[1])
	m.letGo(t, l[2])
	return l
}

// scripts are ways to hide an object from an epoch, and to lose one.
func scripts() []script {
	type piece = func(t *testing.T, m *mutator, l []int)
	return []script{
		{"moved from the first one to the last", []piece{
			func(t *testing.T, m *mutator, l []int) {
				m.get(t, l[0], 0)
				m.put(t, l[0], 0, 0)
			},
			func(t *testing.T, m *mutator, l []int) { m.put(t, l[3], 1, l[1]) },
			func(t *testing.T, m *mutator, l []int) { m.letGo(t, l[1]) },
		}},
		{"got, put away and held alone", []piece{
			func(t *testing.T, m *mutator, l []int) {
				m.get(t, l[0], 0)
				m.get(t, l[1], 0)
			},
			func(t *testing.T, m *mutator, l []int) {
				m.put(t, l[1], 0, 0)
				m.put(t, l[0], 0, 0)
				m.letGo(t, l[0])
			},
			func(t *testing.T, m *mutator, l []int) {
				m.put(t, l[2], 0, l[1])
				m.letGo(t, l[1])
			},
		}},
		{"its owner is drained", []piece{
			func(t *testing.T, m *mutator, l []int) {
				m.get(t, l[0], 0)
				m.letGo(t, l[0])
			},
			func(t *testing.T, m *mutator, l []int) {
				m.put(t, l[1], 1, l[3])
				m.letGo(t, l[3])
				m.drain(3)
			},
			func(t *testing.T, m *mutator, l []int) { m.drain(9) },
		}},
		{"put into a new one", []piece{
			func(t *testing.T, m *mutator, l []int) {
				r := m.given(t, 18, 0)
				m.get(t, l[0], 0)
				m.put(t, r, 17, l[1])
				m.put(t, l[3], 0, r)
				m.letGo(t, r)
			},
			func(t *testing.T, m *mutator, l []int) {
				m.put(t, l[0], 0, 0)
				m.letGo(t, l[1])
			},
			func(t *testing.T, m *mutator, l []int) { m.letGo(t, l[0]) },
		}},
		{"a round is closed, lost and left", []piece{
			func(t *testing.T, m *mutator, l []int) {
				x := m.get(t, l[0], 0)
				m.put(t, m.get(t, x, 0), 1, l[0])
				m.letGo(t, l[2])
				m.letGo(t, x)
			},
			func(t *testing.T, m *mutator, l []int) { m.letGo(t, l[0]) },
			func(t *testing.T, m *mutator, l []int) {
				m.put(t, l[3], 0, l[3])
				m.letGo(t, l[3])
			},
		}},
	}
}

// P19.3, P19.4, P19.5: an object is hidden or lost in three pieces, each behind any unit of an epoch, the third one soon behind the second or late: who can be reached is there, and behind twice as many units as an epoch may have just those are left, wherever the epoch was; so it is where all are let then.
func TestScripts(t *testing.T) {
	for _, s := range scripts() {
		for _, back := range []bool{false, true} {
			m := start(t, api.Conf{N: 7, W: 16, R: 1, K: 1})
			m.row(t, back)
			all := m.whole(t)
			for first := range all + 1 {
				for second := first; second <= all; second++ {
					for _, behind := range []int{0, 1, 3, 9, all} {
						m := start(t, m.c)
						l := m.row(t, back)
						m.play(t, s, l, []int{first, second - first, behind})
						m.isFound(t)
						m.letAll(t)
						m.isFound(t)
						if n := pool.Len(m.g); n != m.c.N {
							t.Fatalf("%s, %d, %d, %d: %d blocks are clean", s.name, first, second, behind, n)
						}
					}
				}
			}
		}
	}
}

// play does the pieces of a script, each behind so many units.
func (m *mutator) play(t *testing.T, s script, l, behind []int) {
	t.Helper()
	for i, piece := range s.pieces {
		round.Run(m.g, behind[i])
		m.isThere(t)
		piece(t, m, l)
		m.isThere(t)
	}
}

// letAll lets all that is held.
func (m *mutator) letAll(t *testing.T) {
	t.Helper()
	for _, r := range m.held() {
		for range m.holds[r] {
			m.letGo(t, r)
		}
	}
}

// P19.5: objects in a row, a round, a tree of many blocks, one that names itself in all its fields, and two rounds that name each other: where all are let, in any phase of an epoch, all blocks are clean at the end.
func TestLost(t *testing.T) {
	for form := range 5 {
		for at := range 400 {
			m := start(t, some)
			l := m.shaped(t, form)
			for range at {
				m.unitOf(t)
			}
			for _, r := range l {
				m.letGo(t, r)
			}
			m.isFound(t)
			if n := pool.Len(m.g); n != some.N {
				t.Errorf("%d, at %d: %d blocks are clean", form, at, n)
			}
		}
	}
}

// shaped has objects born that name each other in some form, lets all but one or two of them, and answers those.
func (m *mutator) shaped(t *testing.T, form int) []int {
	t.Helper()
	var l []int
	for i := range 8 {
		l = append(l, m.given(t, 2+20*(i%2), i))
	}
	for i, r := range l {
		switch form {
		case 0, 1:
			if i < 7 || form == 1 {
				m.put(t, r, 1, l[(i+1)%8])
			}
		case 2:
			if i > 0 {
				m.put(t, l[(i-1)/2], (i-1)%2, r)
			}
		case 3:
			for j := range m.has[r].Ptrs {
				m.put(t, r, j, r)
			}
			m.put(t, r, 0, l[min(i+1, 7)])
		default:
			m.put(t, r, 0, l[i/4*4+(i+1)%4])
			m.put(t, r, 1, l[(i+4)%8])
		}
	}
	for _, r := range l[2:] {
		m.letGo(t, r)
	}
	return l[:2]
}

// P19.5: who was let behind the begin of an epoch may outlive it; the next one, which follows by itself, finds it.
func TestNextEpoch(t *testing.T) {
	m := start(t, small)
	a, b := m.given(t, 1, 0), m.given(t, 1, 0)
	m.put(t, a, 0, b)
	m.put(t, b, 0, a)
	m.letGo(t, b)
	m.setReg(epochs, 0)
	m.goTo(t, api.Reaping)
	m.letGo(t, a)
	m.goTo(t, api.Idle)
	m.drain(100)
	if l := m.objects(); !slices.Equal(l, []int{a, b}) || round.Quiet(m.g) {
		t.Errorf("behind the first epoch %v are left", l)
	}
	m.must(t)
	m.goTo(t, api.Idle)
	m.drain(100)
	if l := m.objects(); len(l) != 0 || round.Epochs(m.g) != 2 || !round.Quiet(m.g) {
		t.Errorf("behind the second epoch %v are left", l)
	}
}
