package heap_test

import (
	"slices"
	"testing"

	"quitrent/api"
)

// any answers some operation, now and then one that is wrong.
func (k *kept) any(next func(int) int) api.Op {
	slot := func() int {
		if next(30) == 0 {
			return next(k.c.R+2) - 1
		}
		return next(k.c.R)
	}
	a, b := slot(), slot()
	nptr, ndata := k.fieldsOf(a)
	from, _ := k.fieldsOf(b)
	field := func(n int) int {
		if n == 0 || next(20) == 0 {
			return next(n+2) - 1
		}
		return next(n)
	}
	switch next(16) {
	case 0, 1, 2:
		n := next(k.c.W - 7)
		if next(3) == 0 {
			n = next(4 * k.c.W)
		}
		nptr := next(n + 2)
		return allocates(a, nptr, n-nptr)
	case 3, 4:
		return loads(a, b, field(from))
	case 5, 6, 7, 8:
		return stores(a, field(nptr), b)
	case 9:
		return reads(a, field(ndata))
	case 10:
		return writes(a, field(ndata), uint32(next(1<<20))*2654435761)
	case 11:
		return copies(a, b)
	case 12, 13:
		return drops(a)
	case 14:
		return sames(a, b)
	}
	if next(3) > 0 {
		return lens(a)
	}
	return ticks()
}

// fieldsOf is how many fields of each kind a slot's object has, none where there is none.
func (k *kept) fieldsOf(slot int) (int, int) {
	if slot < 0 || slot >= k.c.R || k.slots[slot] == nil {
		return 0, 0
	}
	return len(k.slots[slot].ptrs), len(k.slots[slot].data)
}

// P21.7, and P21.2 to P21.6: whatever is done, each call answers what it would of a heap that never takes a block back, all that can be reached is there as it has to be, and each block is clean, or one object's.
func TestAnyOperations(t *testing.T) {
	for _, c := range []api.Conf{{N: 1, W: 16, R: 1, K: 1}, {N: 5, W: 16, R: 2, K: 1}, small, {N: 14, W: 17, R: 3, K: 65536}, some, {N: 120, W: 16, R: 9, K: 60}} {
		amid, errs, kinds, turned := [4]int{}, map[api.Errno]int{}, map[int]int{}, 0
		for seed := range 12 {
			k, next := open(t, c), chance(uint32(c.N*100+seed))
			for range 1200 {
				o := k.any(next)
				amid[k.h.Ground().SeeReg(phase)]++
				a := k.do(t, o)
				errs[a.Err]++
				if a.Err == api.OK {
					kinds[o.Kind]++
				}
				k.alike(t)
			}
			turned += k.h.Ground().SeeReg(18)
		}
		wanted := 5
		if c.N < 20 {
			wanted = 6
		}
		if len(kinds) < 10 || len(errs) < wanted || slices.Min(amid[:]) < 30 && c.K < 1000 || turned < 24 {
			t.Errorf("%v: in the phases were %v, %d epochs; errors %v, kinds %v: that tells too little", c, amid, turned, errs, kinds)
		}
	}
}

// P21.7: a row, a ring, a tree, and objects that all name one another, each of whose words tells who it is, while others come and go all the time: whatever way they are gone along, they are as they were made.
func TestForms(t *testing.T) {
	c := api.Conf{N: 90, W: 16, R: 8, K: 400}
	for form := range 4 {
		k := open(t, c)
		k.form(t, form)
		for i := range 600 {
			if i%200 == 50 {
				k.goAlong(t)
			}
			// A round of two, which only epochs find.
			k.all(t, allocates(6, 2, 0), allocates(7, 1, 0), stores(6, 1, 7), stores(7, 0, 6), drops(7))
			k.alike(t)
		}
	}
}

// form has twelve objects made whose first word is their number: in a row, in a ring, in a tree, or each naming four others, all held by the slot 0 alone.
func (k *kept) form(t *testing.T, form int) {
	t.Helper()
	for i := range 12 {
		k.all(t, allocates(1, 5, 9), writes(1, 8, uint32(i)))
		switch form {
		case 0:
			k.all(t, stores(1, 4, 0))
		case 1:
			// The first one names the last one.
			k.all(t, stores(1, 4, 0))
			if i == 0 {
				k.all(t, copies(2, 1))
			}
			k.all(t, stores(2, 3, 1))
		case 2:
			// The one that came first is the last one's second branch.
			k.all(t, stores(1, i%5, 0))
			if i > 2 {
				k.all(t, loads(3, 0, (i-1)%5), stores(1, (i+1)%5, 3))
			}
		case 3:
			k.all(t, stores(1, 0, 0), stores(1, 1, 1), copies(3, 0))
			for j := range min(i, 3) {
				k.all(t, stores(3, 2+j, 1), loads(3, 3, 0))
			}
		}
		k.all(t, copies(0, 1))
	}
	k.all(t, drops(1), drops(2), drops(3))
}

// goAlong reads what can be reached, by loads alone, as far as some steps lead.
func (k *kept) goAlong(t *testing.T) {
	t.Helper()
	for first := range 5 {
		k.all(t, copies(4, 0))
		for i := range 20 {
			k.all(t, reads(4, 8), loads(5, 4, (first+i*first)%5))
			if k.do(t, lens(5)).Err != api.OK {
				break
			}
			k.all(t, copies(4, 5))
		}
	}
	k.all(t, drops(4), drops(5))
}

// P21.1, and the document's P7: all that a heap knows are its words: one over the words of another, in whatever midst of an epoch, goes on as that does, call by call, access by access.
func TestGoesOn(t *testing.T) {
	for _, c := range []api.Conf{small, some} {
		amid := [4]int{}
		for seed := range 40 {
			k, next := open(t, c), chance(uint32(seed))
			for range 50 + seed {
				k.do(t, k.any(next))
			}
			amid[k.h.Ground().SeeReg(phase)]++
			n := k.again(t)
			if n.h.Meter() != 0 || n.h.Clean() != k.h.Clean() || n.h.Pending() != k.h.Pending() {
				t.Fatalf("%v: %d accesses, %d are clean, %d pending", c, n.h.Meter(), n.h.Clean(), n.h.Pending())
			}
			start := k.h.Meter()
			for range 100 {
				o := k.any(next)
				if a, b := k.do(t, o), call(n.h, o); a != b || k.h.Meter()-start != n.h.Meter() {
					t.Fatalf("%v: %v: %v, %v; %d and %d accesses", c, o, a, b, k.h.Meter()-start, n.h.Meter())
				}
			}
			same(t, api.Op{}, n.h.Ground().Words(), k.h.Ground().Words())
		}
		if slices.Min(amid[api.Counting:]) < 3 {
			t.Errorf("%v: in the phases were %v: that tells too little", c, amid)
		}
	}
}

// The document's P8: how many accesses a call makes hangs on no word that was written.
func TestWordsTellNothing(t *testing.T) {
	for seed := range 6 {
		k, other, next := open(t, some), open(t, some), chance(uint32(seed))
		written := 0
		both := func(o api.Op) {
			p := o
			if o.Kind == api.OpWrite {
				p.V = ^o.V
			}
			k.answer(o)
			a, b := k.h.Meter(), other.h.Meter()
			x, y := call(k.h, o), call(other.h, p)
			if x.V != y.V {
				written++
			}
			x.V, y.V = 0, 0
			if x != y || k.h.Meter()-a != other.h.Meter()-b {
				t.Fatalf("%v: %v, %v; %d and %d accesses", o, x, y, k.h.Meter()-a, other.h.Meter()-b)
			}
		}
		for range 700 {
			o := k.any(next)
			both(o)
			_, ndata := k.fieldsOf(o.A)
			for i := range ndata {
				both(writes(o.A, i, uint32(next(1<<20))))
			}
		}
		if written < 5 {
			t.Error("no word was read: that tells too little")
		}
	}
}
