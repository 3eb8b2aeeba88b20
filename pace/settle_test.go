package pace_test

import (
	"maps"
	"slices"
	"testing"

	"quitrent/api"
	"quitrent/count"
	"quitrent/grave"
	"quitrent/link"
	"quitrent/obj"
	"quitrent/pace"
	"quitrent/plan"
	"quitrent/pool"
	"quitrent/ring"
	"quitrent/round"
	"quitrent/shape"
)

// mutator holds objects, knows what it put into their fields, and does what it can by them.
type mutator struct {
	*kept
	by    func(int) int
	pays  bool
	holds map[int]int
	has   map[int]api.Object
}

// start answers a mutator on a new ground. One that pays does so as is due, and frees ahead of each new object as many blocks as that needs.
func start(t *testing.T, c api.Conf, seed int, pays bool) *mutator {
	t.Helper()
	return &mutator{open(t, c), chance(uint32(seed)), pays, map[int]int{}, map[int]api.Object{}}
}

// did tells where something that a mutator may do isn't done, and pays for it.
func (m *mutator) did(t *testing.T, ok bool, kind, blocks int) {
	t.Helper()
	if !ok {
		t.Fatalf("%v: what a mutator may do isn't done", m.c)
	}
	if m.pays {
		pace.Pay(m.g, pace.Due(m.c, kind, blocks))
	}
}

// bear is given a new object, and tells whether there is room.
func (m *mutator) bear(t *testing.T, nptr, ndata int) (int, bool) {
	t.Helper()
	blocks, err := shape.Blocks(m.c.W, nptr, ndata)
	if m.pays && err == api.OK && pool.Len(m.g)+grave.Pending(m.g) >= blocks {
		pace.Free(m.g, blocks)
	}
	r, err := link.Born(m.g, nptr, ndata)
	if err != api.OK {
		return 0, false
	}
	m.holds[r]++
	m.has[r] = api.Object{Ptrs: make([]int, nptr), Data: make([]uint32, ndata)}
	for i := range ndata {
		m.write(t, r, i, uint32(1+m.by(m.c.N)))
	}
	m.did(t, true, api.OpAlloc, blocks)
	return r, true
}

// given is given a new object for which there is room.
func (m *mutator) given(t *testing.T, nptr, ndata int) int {
	t.Helper()
	r, ok := m.bear(t, nptr, ndata)
	if !ok {
		t.Fatalf("%v: there is no room for %d and %d fields", m.c, nptr, ndata)
	}
	return r
}

// hold holds an object once more.
func (m *mutator) hold(t *testing.T, r int) {
	t.Helper()
	m.holds[r]++
	m.did(t, link.Hold(m.g, r), api.OpCopy, 0)
}

// letGo lets an object that is held.
func (m *mutator) letGo(t *testing.T, r int) {
	t.Helper()
	if m.holds[r]--; m.holds[r] == 0 {
		delete(m.holds, r)
	}
	m.did(t, link.Let(m.g, r), api.OpDrop, 0)
}

// get holds what a field of an object that is held has.
func (m *mutator) get(t *testing.T, r, i int) {
	t.Helper()
	x, err := link.Get(m.g, r, i)
	if x != m.has[r].Ptrs[i] {
		t.Fatalf("%v: the field %d of %d has %d, not %d", m.c, i, r, x, m.has[r].Ptrs[i])
	}
	if x != 0 {
		m.holds[x]++
		link.Hold(m.g, x)
	}
	m.did(t, err == api.OK, api.OpLoad, 0)
}

// put puts what is held, or nothing, into a field of an object that is held.
func (m *mutator) put(t *testing.T, r, i, x int) {
	t.Helper()
	m.has[r].Ptrs[i] = x
	m.did(t, link.Put(m.g, r, i, x) == api.OK, api.OpStore, 0)
}

// write makes v a word of an object that is held.
func (m *mutator) write(t *testing.T, r, i int, v uint32) {
	t.Helper()
	m.has[r].Data[i] = v
	m.did(t, obj.SetData(m.g, r, i, v) == api.OK, api.OpWrite, 0)
}

// any answers one of the objects that are held, 0 where there are none.
func (m *mutator) any() int {
	l := slices.Sorted(maps.Keys(m.holds))
	if len(l) == 0 {
		return 0
	}
	return l[m.by(len(l))]
}

// do does something that a mutator may do.
func (m *mutator) do(t *testing.T) {
	t.Helper()
	r := m.any()
	nptr, ndata := len(m.has[r].Ptrs), len(m.has[r].Data)
	switch n := m.by(13); {
	case n < 2 || r == 0:
		n := m.by(m.c.W - 7)
		if m.by(3) == 0 {
			n = m.by(3 * m.c.W)
		}
		nptr := m.by(n + 1)
		m.bear(t, nptr, n-nptr)
	case n < 5:
		m.letGo(t, r)
	case n == 5:
		m.hold(t, r)
	case n == 6 && ndata > 0:
		m.write(t, r, m.by(ndata), uint32(1+m.by(m.c.N)))
	case n < 9 && nptr > 0:
		m.get(t, r, m.by(nptr))
	case n == 9 && nptr > 0:
		m.put(t, r, m.by(nptr), 0)
	case nptr > 0:
		m.put(t, r, m.by(nptr), m.any())
	}
}

// reached answers who can be reached from a hold, by what was put into fields.
func (m *mutator) reached() map[int]bool {
	met := map[int]bool{}
	todo := slices.Collect(maps.Keys(m.holds))
	for len(todo) > 0 {
		r := todo[len(todo)-1]
		todo = todo[:len(todo)-1]
		if r != 0 && !met[r] {
			met[r] = true
			todo = append(todo, m.has[r].Ptrs...)
		}
	}
	return met
}

// settled answers an empty text where just those objects are left that can be reached, with what was put into their fields, and as often counted as they are named, all other blocks are clean, and all is quiet; else what isn't so.
func (m *mutator) settled() string {
	met := m.reached()
	names := maps.Clone(m.holds)
	blocks := 0
	for r := range met {
		for _, x := range m.has[r].Ptrs {
			names[x]++
		}
		blocks += obj.Blocks(m.g, r)
	}
	for r := 1; r <= m.c.N; r++ {
		o, ok := obj.See(m.g, r)
		if ok != met[r] {
			return "one that can be reached is gone, or one that can't is left"
		}
		if ok && (!slices.Equal(o.Ptrs, m.has[r].Ptrs) || !slices.Equal(o.Data, m.has[r].Data)) {
			return "one that can be reached has other fields than were put there"
		}
		if ok && count.See(m.g, r) != names[r] {
			return "one isn't counted as often as it is named"
		}
	}
	if pool.Len(m.g) != m.c.N-blocks || grave.See(m.g) != 0 || len(grave.List(m.g)) != 0 {
		return "not all other blocks are clean"
	}
	if !round.Quiet(m.g) || ring.Len(m.g) != 0 {
		return "it isn't quiet"
	}
	return ""
}

// settle does as many ticks as it takes till all is found, and tells where that isn't so then. It answers whether it wasn't so ahead of them.
func (m *mutator) settle(t *testing.T) bool {
	t.Helper()
	ahead := m.settled()
	numbers, _ := plan.Of(m.c)
	for range numbers.Settle {
		pace.Tick(m.g)
	}
	if why := m.settled(); why != "" {
		t.Fatalf("%v: behind %d ticks %s", m.c, numbers.Settle, why)
	}
	return ahead != ""
}

// lateness does ticks till all is found, and answers how many of the hundred parts of those that it may take these were.
func (m *mutator) lateness(t *testing.T) int {
	t.Helper()
	numbers, _ := plan.Of(m.c)
	for n := range numbers.Settle + 1 {
		if m.settled() == "" {
			return 100 * n / numbers.Settle
		}
		pace.Tick(m.g)
	}
	t.Fatalf("%v: behind %d ticks %s", m.c, numbers.Settle, m.settled())
	return 0
}

// P20.4: whatever a mutator did, whether it paid what is due or nothing, with steps, units, freed blocks and ticks between: behind as many ticks as Settle says just those objects are left that can be reached. Then the mutator goes on.
func TestSettle(t *testing.T) {
	for _, c := range []api.Conf{{N: 1, W: 16, R: 1, K: 1}, {N: 4, W: 16, R: 1, K: 1}, {N: 9, W: 16, R: 1, K: 65536}, small, {N: 24, W: 17, R: 3, K: 1}, some} {
		todo, amid := 0, [4]int{}
		for seed := range 60 {
			m := start(t, c, c.N*1000+seed, seed%2 == 0)
			for range 4 {
				for range 20 + 10*c.N {
					m.do(t)
					m.meddle(seed / 2)
				}
				amid[m.g.SeeReg(phase)]++
				if m.settle(t) {
					todo++
				}
			}
		}
		if todo < 100 || c.N > 1 && c.K < 10 && slices.Min(amid[:]) < 5 {
			t.Errorf("%v: there was something to find %d times, in the phases were %v: that tells too little", c, todo, amid)
		}
	}
}

// meddle does now and then some steps, units, or a tick, of each as often as the seed says, or makes some blocks clean.
func (m *mutator) meddle(seed int) {
	switch n := m.by(8); {
	case n < seed%3:
		pace.Pay(m.g, m.by(20))
	case n == 3 && seed%5 < 3:
		pace.Drain(m.g, m.by(9))
	case n == 4 && seed%4 == 0:
		pace.Free(m.g, m.by(3))
	case n == 5 && seed%7 == 0:
		pace.Tick(m.g)
	}
}

// lose has objects born of so many leaves, till there is no room, lets all their fields name some of them, and lets all but one of them, behind so many units of an epoch.
func (m *mutator) lose(t *testing.T, leaves, units int) {
	t.Helper()
	fields := m.c.W - 8
	if leaves > 0 {
		fields = leaves * (m.c.W - 1)
	}
	var l []int
	for pool.Len(m.g) > leaves {
		l = append(l, m.given(t, fields, 0))
	}
	for i, r := range l {
		for j := range fields {
			m.put(t, r, j, l[(i+j)%len(l)])
		}
	}
	m.g.SetReg(suspicion, 1)
	pace.Pay(m.g, units)
	for _, r := range l[1:] {
		m.letGo(t, r)
	}
	m.put(t, l[0], 0, 0)
	m.letGo(t, l[0])
}

// P20.4: all blocks are those of objects whose fields all name some of them, of the least size and the greatest; all are lost, in any phase of an epoch, so that it takes another one to find them: at any K as many ticks as Settle says are enough.
func TestSettleAllLost(t *testing.T) {
	latest := 0
	for _, c := range []api.Conf{{N: 1, W: 16, R: 1, K: 1}, {N: 9, W: 16, R: 1, K: 1}, {N: 20, W: 18, R: 1, K: 1}, {N: 9, W: 24, R: 1, K: 1}} {
		numbers, _ := plan.Of(c)
		for _, k := range []int{1, 2, 3, 10, 100, numbers.Epoch - 1, numbers.Epoch, numbers.Epoch + 1, 65536} {
			c.K = k
			for leaves := 0; leaves < min(c.N, c.W-7); leaves += 1 + leaves {
				for units := 0; units < numbers.Epoch; units += 1 + numbers.Epoch/9 {
					m := start(t, c, 1, false)
					m.lose(t, leaves, units)
					late := m.lateness(t)
					latest = max(latest, late)
					m.lose(t, leaves, units)
					m.settle(t)
				}
			}
		}
	}
	if latest < 60 {
		t.Errorf("the latest was found behind %d of a hundred ticks: that tells too little", latest)
	}
}

// P20.4: of the greatest width, and of the greatest objects, all of which are lost in the midst of an epoch, all is found likewise; and where one of them is still held, that one and whom it names.
func TestSettleWide(t *testing.T) {
	for _, k := range []int{100, 65536} {
		for _, leaves := range []int{0, 1, 248} {
			m := start(t, api.Conf{N: 520, W: 256, R: 1, K: k}, 1, false)
			m.lose(t, leaves, 3000)
			m.settle(t)
			a, b, x := m.given(t, 3, 5), m.given(t, 300, 0), m.given(t, 1, 0)
			m.put(t, a, 2, b)
			m.put(t, b, 299, b)
			m.put(t, x, 0, b)
			m.put(t, b, 0, x)
			m.put(t, a, 2, 0)
			m.letGo(t, x)
			m.settle(t)
			m.letGo(t, b)
			m.settle(t)
			if n := pool.Len(m.g); n != 519 {
				t.Errorf("%d: %d blocks are clean", k, n)
			}
		}
	}
}

// P20.4: what was found stays as it is, and quiet, behind more ticks.
func TestSettledStays(t *testing.T) {
	m := start(t, some, 7, true)
	for range 300 {
		m.do(t)
	}
	m.settle(t)
	was := m.g.Words()
	for range 50 {
		pace.Tick(m.g)
	}
	if !slices.Equal(m.g.Words(), was) {
		t.Error("ticks change what is settled")
	}
}
