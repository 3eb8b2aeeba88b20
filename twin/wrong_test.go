package twin

import (
	"testing"

	"quitrent/api"
	"quitrent/audit"
	"quitrent/census"
	"quitrent/heap"
	"quitrent/ideal"
)

// These tests spoil one of the two heaps between operations: from outside nobody makes a heap wrong.

// playing answers a player over two new heaps, which has done an Alloc and a Copy.
func playing(t *testing.T, here, there api.Conf) *player {
	t.Helper()
	h, err := heap.New(here)
	m, wrong := ideal.New(there)
	if err != api.OK || wrong != api.OK {
		t.Fatal(err, wrong)
	}
	p := newPlayer(h, m, 5)
	p.play(api.Op{Kind: api.OpAlloc, B: 1, C: 1})
	p.play(api.Op{Kind: api.OpCopy, A: 1})
	if p.Wrong != nowhere || len(p.Answers) != 2 {
		t.Fatalf("%v, %v: %v", here, there, p.Report)
	}
	return p
}

// goesOn does operations, which are wrong from the place want on, and looks whether the first one stays the one that is told.
func (p *player) goesOn(t *testing.T, want int, l ...api.Op) {
	t.Helper()
	for _, o := range l {
		at := len(p.Answers)
		p.play(o)
		if told := p.Wrong; at < want && told != nowhere || at >= want && told != want {
			t.Errorf("behind the operation %d: %d, want %d", at, told, want)
		}
	}
}

// The operations that change nothing of both heaps.
var (
	lenOp  = api.Op{Kind: api.OpLen}
	noneOp = api.Op{Kind: 11}
)

// P26.1: the heap is not alike the ideal one, though both answer the same, and it is sound.
func TestWrongUnlike(t *testing.T) {
	p := playing(t, api.Conf{N: 3, W: 16, R: 2, K: 1}, api.Conf{N: 3, W: 16, R: 2, K: 1})
	p.goesOn(t, 3, lenOp)
	p.m.Do(api.Op{Kind: api.OpDrop, A: 1}, false)
	p.goesOn(t, 3, lenOp, lenOp)
	if !audit.Sound(p.h.Ground()) || p.Answers[3] != p.Answers[2] || p.Answers[3].N != 1 {
		t.Error(p.Report)
	}
	// What is mended behind it changes nothing any more.
	p.m.Do(api.Op{Kind: api.OpCopy, A: 1}, false)
	p.goesOn(t, 3, noneOp)
}

// P26.1: the heap is not sound, though both answer the same, and it is alike the ideal one.
func TestWrongUnsound(t *testing.T) {
	p := playing(t, api.Conf{N: 3, W: 16, R: 2, K: 1}, api.Conf{N: 3, W: 16, R: 2, K: 1})
	g := p.h.Ground()
	g.SetReg(6, 1)
	p.goesOn(t, 2, lenOp)
	if audit.Sound(g) || !census.Alike(g, p.m) {
		t.Error(audit.Check(g))
	}
	g.SetReg(6, 0)
	p.goesOn(t, 2, lenOp, noneOp)
}

// P26.1: the answers are unlike, though the heap is alike the ideal one, and sound: both heaps are of other widths, so that both tell errors, but not the same.
func TestWrongAnswer(t *testing.T) {
	p := playing(t, api.Conf{N: 1, W: 256, R: 2, K: 1}, api.Conf{N: 1, W: 16, R: 2, K: 1})
	p.goesOn(t, 4, lenOp, api.Op{Kind: api.OpAlloc, C: 10}, api.Op{Kind: api.OpAlloc, C: 1000}, lenOp, noneOp)
	if g := p.h.Ground(); !audit.Sound(g) || !census.Alike(g, p.m) {
		t.Error(audit.Check(g))
	}
	// The heap's answers are told.
	if p.Answers[4] != (api.Answer{Err: api.ErrFull}) || p.Full != 2 {
		t.Error(p.Report)
	}
}

// P26.1: the ideal heap is told that there is no room just where the heap tells api.ErrFull, and no other error.
func TestToldOfFull(t *testing.T) {
	p := playing(t, api.Conf{N: 9, W: 16, R: 2, K: 1}, api.Conf{N: 9, W: 256, R: 2, K: 1})
	p.goesOn(t, 3, noneOp, api.Op{Kind: api.OpAlloc, C: 1000})
	if p.Answers[3].Err != api.ErrSize || p.m.Objects() != 2 || p.Full != 0 {
		t.Error(p.Report, p.m.Objects())
	}
}

// P26.1: it is the first operation behind which something is wrong, also if that is the first one of all.
func TestWrongAtOnce(t *testing.T) {
	h, _ := heap.New(api.Conf{N: 3, W: 16, R: 2, K: 1})
	m, _ := ideal.New(api.Conf{N: 3, W: 16, R: 3, K: 1})
	p := newPlayer(h, m, 2)
	p.goesOn(t, 0, noneOp, noneOp)
}

// P26.1: Bound is the place of what is no Alloc, too, if more than may be is live behind it: from outside nothing but an Alloc makes more live.
func TestBoundBehindAny(t *testing.T) {
	h, _ := heap.New(api.Conf{N: 3, W: 16, R: 2, K: 1})
	m, _ := ideal.New(api.Conf{N: 3, W: 16, R: 2, K: 1})
	p := newPlayer(h, m, 4)
	p.play(noneOp)
	m.Do(api.Op{Kind: api.OpAlloc}, false)
	p.play(noneOp)
	m.Do(api.Op{Kind: api.OpDrop}, false)
	p.play(noneOp)
	if p.Bound != 1 || p.Most != 1 {
		t.Error(p.Report)
	}
}
