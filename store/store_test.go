package store_test

import (
	"math"
	"slices"
	"sync"
	"testing"

	"quitrent/api"
	"quitrent/store"
)

// most is the chapter's bound, told again so that another one is found.
const most = 8388608

// someWords are ends of what a word may be, and some between.
var someWords = []uint32{math.MaxUint32, 0, 1, 7, 0x80000000, 0x12345678, math.MaxInt32, math.MaxUint32 - 1}

// noWords answers indices at which a store of n words has none; some are those of a word, if they go round.
func noWords(n int) []int {
	return []int{
		-1, -2, -n, -n - 1, n, n + 1, 2*n + 1, most, most + 1,
		1 << 32, 1<<32 + 1, 1 << 62, -1 << 32, math.MaxInt32, math.MinInt32, math.MaxInt, math.MinInt, math.MinInt + 1,
	}
}

// storeOf answers a store that was loaded with l, whose meter is 0.
func storeOf(t *testing.T, l ...uint32) *store.Store {
	t.Helper()
	s, err := store.New(len(l))
	if s == nil || err != api.OK || !s.Load(l) {
		t.Fatalf("a store of %v: %d", l, err)
	}
	return s
}

// check tells where the words of a store are not those of want, each way they may be asked for, or its meter isn't what it should be.
func check(t *testing.T, s *store.Store, meter uint64, want ...uint32) {
	t.Helper()
	if s.Len() != len(want) || !slices.Equal(s.Words(), want) {
		t.Errorf("Len %d, Words %v, not %v", s.Len(), s.Words(), want)
	}
	for i, w := range want {
		if got := s.Peek(i); got != w {
			t.Errorf("Peek(%d): %d, not %d", i, got, w)
		}
	}
	if got := s.Meter(); got != meter {
		t.Errorf("Meter: %d, not %d", got, meter)
	}
}

func TestNew(t *testing.T) {
	if store.Most != most {
		t.Error("Most:", store.Most)
	}
	for _, n := range []int{0, 1, 2, 3, 16, 1628, 4198424, most - 1, most} {
		s, err := store.New(n)
		if s == nil || err != api.OK {
			t.Fatalf("New(%d): %d", n, err)
		}
		l := s.Words()
		if s.Len() != n || len(l) != n || s.Meter() != 0 {
			t.Errorf("New(%d): Len %d, %d words, Meter %d", n, s.Len(), len(l), s.Meter())
		}
		if slices.ContainsFunc(l, func(w uint32) bool { return w != 0 }) {
			t.Errorf("New(%d): not all words are 0", n)
		}
	}
}

func TestNewWrong(t *testing.T) {
	for _, n := range []int{-1, -2, -16, -most, math.MinInt32, -1 << 32, math.MinInt, most + 1, most + 2, 2 * most, 1 << 32, 1<<32 + 1, math.MaxInt} {
		if s, err := store.New(n); s != nil || err != api.ErrArg {
			t.Errorf("New(%d): %v, %d, not ErrArg", n, s, err)
		}
	}
}

func TestExample(t *testing.T) {
	s, err := store.New(3)
	if err != api.OK {
		t.Fatal(err)
	}
	if !s.Put(1, 7) || s.Get(1) != 7 || s.Get(3) != 0 {
		t.Error("Put(1, 7), Get(1), Get(3)")
	}
	check(t, s, 2, 0, 7, 0)
}

func TestGet(t *testing.T) {
	s := storeOf(t, someWords...)
	for i, w := range someWords {
		if got := s.Get(i); got != w || s.Meter() != uint64(i+1) {
			t.Errorf("Get(%d): %d, not %d; Meter %d", i, got, w, s.Meter())
		}
	}
	check(t, s, uint64(len(someWords)), someWords...)
}

func TestGetNoWord(t *testing.T) {
	for n := range 5 {
		l := slices.Repeat([]uint32{9}, n)
		s := storeOf(t, l...)
		for _, i := range noWords(n) {
			if got, peeked := s.Get(i), s.Peek(i); got != 0 || peeked != 0 {
				t.Errorf("of %d words Get(%d): %d, Peek: %d, not 0", n, i, got, peeked)
			}
		}
		check(t, s, 0, l...)
	}
}

func TestPut(t *testing.T) {
	for at := range 5 {
		meter := uint64(0)
		s, want := storeOf(t, 1, 2, 3, 4, 5), []uint32{1, 2, 3, 4, 5}
		for _, w := range append(someWords, 6, 6, 0) { // a word that is there already is put, too
			if !s.Put(at, w) {
				t.Errorf("Put(%d, %d): false", at, w)
			}
			meter, want[at] = meter+1, w
			check(t, s, meter, want...)
			if got := s.Get(at); got != w {
				t.Errorf("Get(%d): %d, not %d", at, got, w)
			}
			meter++
			check(t, s, meter, want...)
		}
	}
}

func TestPutNoWord(t *testing.T) {
	for n := range 5 {
		l := slices.Repeat([]uint32{9}, n)
		s := storeOf(t, l...)
		for _, i := range noWords(n) {
			for _, w := range []uint32{0, 1, math.MaxUint32} {
				if s.Put(i, w) {
					t.Errorf("of %d words Put(%d, %d): true", n, i, w)
				}
			}
		}
		check(t, s, 0, l...)
	}
}

func TestEndsOfTheGreatest(t *testing.T) {
	s, err := store.New(most)
	if err != api.OK {
		t.Fatal(err)
	}
	if !s.Put(0, 3) || !s.Put(most-1, 4) || s.Put(most, 5) || s.Put(-1, 6) {
		t.Error("Put at the ends and behind them")
	}
	if s.Get(0) != 3 || s.Get(most-1) != 4 || s.Peek(most-1) != 4 || s.Get(most) != 0 || s.Get(-1) != 0 {
		t.Error("Get at the ends and behind them")
	}
	if s.Meter() != 4 {
		t.Error("Meter:", s.Meter())
	}
	l := s.Words()
	l[0], l[most-1] = 0, 0
	if slices.ContainsFunc(l, func(w uint32) bool { return w != 0 }) {
		t.Error("another word is changed")
	}
	if !s.Load(l) || s.Peek(0) != 0 || s.Peek(most-1) != 0 {
		t.Error("Load of all")
	}
}

func TestOnlyGetAndPutAreAccesses(t *testing.T) {
	s := storeOf(t, 1, 2)
	s.Get(0)
	for _, call := range []struct {
		name string
		f    func()
	}{
		{"Len", func() { s.Len() }}, {"Meter", func() { s.Meter() }}, {"Words", func() { s.Words() }},
		{"Peek", func() { s.Peek(0); s.Peek(1) }}, {"Peek of none", func() { s.Peek(-1); s.Peek(2) }},
		{"Get of none", func() { s.Get(-1); s.Get(2) }}, {"Put of none", func() { s.Put(-1, 5); s.Put(2, 5) }},
		{"Load", func() { s.Load([]uint32{1, 2}) }}, {"Load of other many", func() { s.Load([]uint32{3}) }},
	} {
		call.f()
		if s.Meter() != 1 {
			t.Fatalf("%s: Meter %d, not 1", call.name, s.Meter())
		}
	}
	s.Put(1, 2) // also where the word was that already
	check(t, s, 2, 1, 2)
}

func TestWordsAreNewMemory(t *testing.T) {
	s := storeOf(t, 1, 2, 3)
	first, second := s.Words(), s.Words()
	first[0] = 9
	first = append(first, 8)
	if first[2] = 7; second[0] != 1 || second[2] != 3 {
		t.Error("two answers share memory:", second)
	}
	check(t, s, 0, 1, 2, 3)
	s.Put(1, 5)
	s.Load([]uint32{4, 4, 4})
	if !slices.Equal(second, []uint32{1, 2, 3}) {
		t.Error("an answer is changed by a later call:", second)
	}
}

func TestLoad(t *testing.T) {
	s := storeOf(t, 1, 2, 3)
	s.Get(0)
	l := []uint32{4, 0, math.MaxUint32}
	if !s.Load(l) {
		t.Error("Load: false")
	}
	check(t, s, 1, 4, 0, math.MaxUint32)
	l[0] = 8
	check(t, s, 1, 4, 0, math.MaxUint32)
	s.Put(1, 6)
	if !slices.Equal(l, []uint32{8, 0, math.MaxUint32}) {
		t.Error("the list that was handed in is changed:", l)
	}
	if !s.Load(s.Words()) {
		t.Error("Load of its own words: false")
	}
	check(t, s, 2, 4, 6, math.MaxUint32)
	// The list's own memory goes on behind it: just the list counts.
	long := []uint32{7, 7, 7, 7, 7}
	if !s.Load(long[:3]) || s.Load(long[:2]) {
		t.Error("Load of a piece of a list")
	}
	check(t, s, 2, 7, 7, 7)
}

func TestLoadOtherMany(t *testing.T) {
	for n := range 5 {
		want := slices.Repeat([]uint32{9}, n)
		s := storeOf(t, want...)
		for many := range 10 {
			if many == n {
				continue
			}
			if s.Load(slices.Repeat([]uint32{5}, many)) {
				t.Errorf("of %d words Load of %d: true", n, many)
			}
		}
		if n > 0 && s.Load(nil) {
			t.Errorf("of %d words Load of nil: true", n)
		}
		check(t, s, 0, want...)
	}
}

func TestStoreOfNoWords(t *testing.T) {
	s, err := store.New(0)
	if s == nil || err != api.OK {
		t.Fatal("New(0):", err)
	}
	if s.Get(0) != 0 || s.Peek(0) != 0 || s.Put(0, 1) {
		t.Error("it has a word")
	}
	if !s.Load(nil) || !s.Load([]uint32{}) || s.Load([]uint32{0}) {
		t.Error("Load")
	}
	check(t, s, 0)
}

func TestNilStore(t *testing.T) {
	var s *store.Store
	for _, i := range append(noWords(0), 0) {
		if s.Get(i) != 0 || s.Peek(i) != 0 || s.Put(i, 1) {
			t.Errorf("Get, Peek or Put of %d", i)
		}
	}
	for _, l := range [][]uint32{nil, {}, {0}, {1, 2}} {
		if s.Load(l) {
			t.Errorf("Load(%v): true", l)
		}
	}
	if s.Len() != 0 || s.Meter() != 0 || len(s.Words()) != 0 {
		t.Error("Len, Meter or Words:", s.Len(), s.Meter(), s.Words())
	}
}

func TestStoresAreApart(t *testing.T) {
	first, second := storeOf(t, 1, 2), storeOf(t, 1, 2)
	first.Put(0, 5)
	first.Get(0)
	second.Get(1)
	check(t, first, 2, 5, 2)
	check(t, second, 1, 1, 2)
}

// TestAnyRow holds a store against a plain list and a count, over calls of all kinds by turns.
func TestAnyRow(t *testing.T) {
	const n = 37
	s, err := store.New(n)
	if err != api.OK {
		t.Fatal(err)
	}
	want, meter, seed := make([]uint32, n), uint64(0), uint32(1)
	next := func(below int) int {
		seed = seed*1664525 + 1013904223
		return int(seed>>8) % below
	}
	for range 20000 {
		i := next(n+6) - 3
		there := i >= 0 && i < n
		switch next(8) {
		case 0, 1, 2:
			w := uint32(next(1<<24)) << next(9)
			if s.Put(i, w) != there {
				t.Fatalf("Put(%d, %d): %v", i, w, !there)
			}
			if there {
				want[i], meter = w, meter+1
			}
		case 3, 4, 5:
			w := uint32(0)
			if there {
				w, meter = want[i], meter+1
			}
			if got := s.Get(i); got != w {
				t.Fatalf("Get(%d): %d, not %d", i, got, w)
			}
		case 6:
			if s.Load(want[:n-1]) || next(9) == 0 && !s.Load(slices.Clone(want)) {
				t.Fatal("Load")
			}
		}
		if s.Meter() != meter || !slices.Equal(s.Words(), want) {
			t.Fatalf("Meter %d, not %d, or other words", s.Meter(), meter)
		}
	}
}

func TestMeterIsAskedMeanwhile(t *testing.T) {
	const askers, times = 4, 50000
	s := storeOf(t, 0, 0, 0)
	done := make(chan struct{})
	var all sync.WaitGroup
	for range askers {
		all.Go(func() {
			for before := uint64(0); ; {
				now := s.Meter()
				if now < before || now > 2*times {
					t.Errorf("Meter: %d, %d ahead", now, before)
					return
				}
				before = now
				select {
				case <-done:
					return
				default:
				}
			}
		})
	}
	for i := range times {
		if !s.Put(i%3, uint32(i)) || s.Get(i%3) != uint32(i) || s.Meter() != 2*uint64(i+1) {
			t.Errorf("round %d: Meter %d", i, s.Meter())
			break
		}
	}
	close(done)
	all.Wait()
	check(t, s, 2*times, times-2, times-1, times-3)
}

// TestMeterMissesNone has several goroutines get and put, each a word of its own: a meter that is not counted atomically loses some of their accesses.
func TestMeterMissesNone(t *testing.T) {
	const callers, times = 8, 200000
	s := storeOf(t, make([]uint32, callers)...)
	start := make(chan struct{})
	var all sync.WaitGroup
	for c := range callers {
		all.Go(func() {
			<-start
			for range times {
				s.Put(c, s.Get(c)+1)
			}
		})
	}
	close(start)
	all.Wait()
	check(t, s, 2*callers*times, slices.Repeat([]uint32{times}, callers)...)
}
