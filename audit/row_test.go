package audit_test

import (
	"slices"
	"testing"

	"quitrent/api"
	"quitrent/audit"
	"quitrent/chain"
	"quitrent/ground"
	"quitrent/ring"
)

// lay lays a row of those blocks: its registers from one on, the words of the blocks that name the next one and, if that isn't 0, those that name the one ahead.
func lay(g *ground.Ground, reg, next, prev int, l ...int) {
	g.SetReg(reg, 0)
	g.SetReg(reg+1, 0)
	g.SetReg(reg+2, len(l))
	for i, b := range l {
		if i == 0 {
			g.SetReg(reg, b+1)
		} else {
			g.SetWord(l[i-1], next, uint32(b+1))
		}
		g.SetWord(b, next, 0)
		if prev > 0 {
			g.SetWord(b, prev, uint32(g.SeeReg(reg+1)))
		}
		g.SetReg(reg+1, b+1)
	}
}

// layClean, layGrave and layRing lay the rows of a ground.
func layClean(g *ground.Ground, l ...int) { lay(g, 0, 5, 0, l...) }

func layGrave(g *ground.Ground, l ...int) { lay(g, 3, 5, 0, l...) }

func layRing(g *ground.Ground, l ...int) { lay(g, 7, 7, 6, l...) }

// P25.1: each register that is made another one is found, by itself; those behind them may be any.
func TestRegisters(t *testing.T) {
	kinds := []int{cleanOf, cleanOf, cleanOf, graveOf, graveOf, graveOf, pendingOf, ringOf, ringOf, ringOf}
	g := sample(t)
	values := []int{1 << 31, most - 1, most}
	for v := range 30 {
		values = append(values, v)
	}
	for r := range 24 {
		was := g.SeeReg(r)
		for _, v := range append(values, was+1<<16, was+1<<31) {
			g.SetReg(r, v)
			if r >= len(kinds) || v == was {
				finds(t, g)
			} else {
				finds(t, g, at(kinds[r], 0))
			}
		}
		g.SetReg(r, was)
	}
	for r := range 10 {
		g.SetReg(r, most)
	}
	finds(t, g, at(cleanOf, 0), at(graveOf, 0), at(ringOf, 0), at(pendingOf, 0))
	for r := range 10 {
		g.SetReg(r, 0)
	}
	finds(t, g, at(cleanOf, 0), at(graveOf, 0), at(ringOf, 0), at(pendingOf, 0))
}

// P25.1: rows of nothing, where nothing belongs there: no register may be another one.
func TestEmptyRows(t *testing.T) {
	g := bare(t, api.Conf{N: 1, W: 16, R: 1, K: 1})
	chain.Take(g, 0)
	g.SetWord(0, 0, small)
	g.SetWord(0, 3, 1)
	g.SetRoot(0, 1)
	finds(t, g)
	for r, kind := range []int{cleanOf, cleanOf, cleanOf, graveOf, graveOf, graveOf, pendingOf, ringOf, ringOf, ringOf} {
		for _, v := range []int{1, 2, 3, most} {
			g.SetReg(r, v)
			finds(t, g, at(kind, 0))
		}
		g.SetReg(r, 0)
	}
	// The block itself would be a row that ends, if it belonged there.
	layClean(g, 0)
	finds(t, g, at(cleanOf, 0))
	layClean(g)
	layGrave(g, 0)
	finds(t, g, at(graveOf, 0))
	layGrave(g)
	layRing(g, 0)
	finds(t, g, at(ringOf, 0))
	layRing(g)
	g.SetWord(0, 0, small+ringed)
	finds(t, g, at(ringOf, 0))
	layRing(g, 0)
	finds(t, g)
}

// has tells whether that one is found of all, and tells where something else is found than the words say.
func has(t *testing.T, g *ground.Ground, kind int) bool {
	t.Helper()
	return slices.Contains(check(t, g), audit.Finding{Kind: kind})
}

// P25.1: the clean blocks stand in a chain in whichever order, each once.
func TestClean(t *testing.T) {
	clean := []int{10, 13, 14, 15, 16, 17, 18, 19, 20, 21, 22, 23}
	g := sample(t)
	next, laid := chance(7), slices.Clone(clean)
	for range 20 {
		i, j := next(len(laid)), next(len(laid))
		laid[i], laid[j] = laid[j], laid[i]
		layClean(g, laid...)
		finds(t, g)
	}
	last := len(clean) - 1
	for i, b := range clean {
		// One is missed, whatever the length says, or all from it on are.
		layClean(g, slices.Delete(slices.Clone(clean), i, i+1)...)
		finds(t, g, at(cleanOf, 0))
		g.SetReg(2, len(clean))
		finds(t, g, at(cleanOf, 0))
		layClean(g, clean[:i]...)
		finds(t, g, at(cleanOf, 0))
		// It goes round from each one to each that is ahead, or leaves out some that are behind.
		layClean(g, clean...)
		for j, to := range clean {
			g.SetWord(b, 5, uint32(to+1))
			if j == i+1 {
				finds(t, g)
			} else {
				finds(t, g, at(cleanOf, 0))
			}
		}
		g.SetWord(b, 5, uint32(1<<16+clean[(i+1)%len(clean)]+1))
		finds(t, g, at(cleanOf, 0))
		// It ends early, or with what isn't clean.
		for _, name := range []int{near + 1, 3, 4, gone + 1, plain + 1, 25, 26, most, 0} {
			g.SetWord(b, 5, uint32(name))
			if name == 0 && i == last {
				finds(t, g)
			} else {
				finds(t, g, at(cleanOf, 0))
			}
		}
	}
	layClean(g, clean...)
	finds(t, g)
	// The chain is whole, and the length too, but another one is said to be the first one, or the last one.
	g.SetReg(0, clean[1]+1)
	finds(t, g, at(cleanOf, 0))
	g.SetReg(0, clean[0]+1)
	g.SetReg(1, clean[0]+1)
	finds(t, g, at(cleanOf, 0))
	g.SetReg(1, clean[last]+1)
	finds(t, g)
}

// P25.1: nobody else stands in the chain of the clean blocks; who isn't clean any more is missed there no more, and who became clean is.
func TestCleanOthers(t *testing.T) {
	clean := []int{10, 13, 14, 15, 16, 17, 18, 19, 20, 21, 22, 23}
	for _, b := range []int{near, wide, 2, 3, other, gone, 7, shed, 9, lone, plain} {
		for i := range len(clean) + 1 {
			g := sample(t)
			layClean(g, slices.Insert(slices.Clone(clean), i, b)...)
			if !has(t, g, cleanOf) {
				t.Error("one more", b, i)
			}
			g.SetReg(2, len(clean))
			if !has(t, g, cleanOf) {
				t.Error("one more, but not in the length", b, i)
			}
		}
		for i := range clean {
			g, l := sample(t), slices.Clone(clean)
			l[i] = b
			layClean(g, l...)
			if !has(t, g, cleanOf) {
				t.Error("one in the place of another", b, i)
			}
		}
	}
	g := sample(t)
	g.SetWord(14, 0, leaf)
	finds(t, g, at(leafOf, 14), at(cleanOf, 0))
	layClean(g, slices.DeleteFunc(slices.Clone(clean), func(b int) bool { return b == 14 })...)
	finds(t, g, at(leafOf, 14))
	g.SetWord(plain, 0, 0)
	finds(t, g, at(leafOf, 14), at(rootOf, 2), at(cleanOf, 0))
	g.SetRoot(2, 0)
	chain.Add(g, 0, plain)
	finds(t, g, at(leafOf, 14))
}

// P25.1: the dead heads lie in the grave in whichever order, each once, and nobody else.
func TestGrave(t *testing.T) {
	g := sample(t)
	rows := []struct {
		laid  []int
		sound bool
	}{
		{[]int{shed, gone}, true}, {[]int{gone, shed}, true},
		{nil, false}, {[]int{shed}, false}, {[]int{gone}, false},
		{[]int{shed, gone, lone}, false}, {[]int{lone, shed, gone}, false}, {[]int{gone, lone}, false}, {[]int{lone, plain}, false},
		{[]int{shed, gone, near}, false}, {[]int{shed, 10}, false}, {[]int{9, gone}, false}, {[]int{gone, 6, shed}, false},
	}
	for _, row := range rows {
		g := sample(t)
		layGrave(g, row.laid...)
		if has(t, g, graveOf) == row.sound {
			t.Error(row.laid)
		}
		g.SetReg(5, 2)
		if has(t, g, graveOf) == row.sound {
			t.Error(row.laid, "the length 2")
		}
	}
	for _, name := range []int{shed + 1, gone + 1, near + 1, 10, 25, most} {
		g.SetWord(gone, 5, uint32(name))
		finds(t, g, at(graveOf, 0))
	}
	g.SetWord(gone, 5, 0)
	for _, name := range []int{0, shed + 1, lone + 1, 14, 25, most} {
		g.SetWord(shed, 5, uint32(name))
		finds(t, g, at(graveOf, 0))
	}
	g.SetWord(shed, 5, gone+1)
	finds(t, g)
	// One that is dead and isn't there, and one that is there and isn't dead.
	g.SetWord(lone, 0, small+dead)
	finds(t, g, at(nameOf, lone), at(countOf, lone), at(graveOf, 0), at(pendingOf, 0))
	chain.Add(g, 1, lone)
	g.SetReg(6, 6)
	finds(t, g, at(nameOf, lone), at(countOf, lone))
	g.SetWord(lone, 8, 0)
	g.SetWord(lone, 3, 0)
	finds(t, g)
	g.SetWord(lone, 0, small)
	finds(t, g, at(countOf, lone), at(graveOf, 0), at(pendingOf, 0))
	g.SetRoot(3, lone+1)
	g.SetWord(lone, 3, 1)
	g.SetReg(6, 5)
	finds(t, g, at(graveOf, 0))
	layGrave(g, shed, gone)
	finds(t, g)
}

// P25.1: all that have the mark stand in the ring in whichever order, each once, and nobody else; each names the one ahead and the one behind.
func TestRing(t *testing.T) {
	g := sample(t)
	for _, l := range [][]int{{near, wide, other}, {near, other, wide}, {wide, near, other}, {wide, other, near}, {other, wide, near}, {other, near, wide}} {
		layRing(g, l...)
		finds(t, g)
		// Each word of each block of it, made any other one.
		for _, b := range l {
			for _, w := range []int{6, 7} {
				was := g.SeeWord(b, w)
				for _, name := range []int{0, near + 1, wide + 1, 3, other + 1, gone + 1, plain + 1, free + 1, 24, 25, 1<<16 + int(was), most} {
					g.SetWord(b, w, uint32(name))
					if name == int(was) {
						finds(t, g)
					} else {
						finds(t, g, at(ringOf, 0))
					}
				}
				g.SetWord(b, w, was)
			}
		}
	}
	for _, l := range [][]int{nil, {near}, {near, wide}, {wide, other}, {near, wide, other, plain}, {plain, near, wide, other}, {near, wide, plain}, {near, wide, other, shed}, {near, wide, gone}, {free, near, wide}} {
		layRing(g, l...)
		finds(t, g, at(ringOf, 0))
		g.SetReg(9, 3)
		finds(t, g, at(ringOf, 0))
	}
	layRing(g, near, wide, other)
	finds(t, g)
	// All go round, both ways.
	g.SetWord(near, 6, other+1)
	g.SetWord(other, 7, near+1)
	finds(t, g, at(ringOf, 0))
	layRing(g, near, wide, other)
	// One more has the mark, a dead one too.
	g.SetWord(plain, 0, small+ringed)
	finds(t, g, at(ringOf, 0))
	layRing(g, near, plain, wide, other)
	finds(t, g)
	g.SetWord(shed, 0, spine+dead+ringed)
	finds(t, g, at(ringOf, 0))
	layRing(g, near, plain, wide, other, shed)
	finds(t, g)
	// One has it no more.
	g.SetWord(plain, 0, small)
	finds(t, g, at(ringOf, 0))
	layRing(g, near, wide, other, shed)
	finds(t, g)
	for ring.Cut(g, near) || ring.Cut(g, wide) || ring.Cut(g, other) || ring.Cut(g, shed) {
	}
	finds(t, g)
	layRing(g, near)
	finds(t, g, at(ringOf, 0))
}

// P25.1: with four in the ring, those words that name the ones ahead may not lead back another way, though they reach all, each once.
func TestRingBack(t *testing.T) {
	g := sample(t)
	ring.Add(g, plain)
	layRing(g, near, wide, other, plain)
	finds(t, g)
	g.SetWord(plain, 6, wide+1)
	g.SetWord(wide, 6, other+1)
	g.SetWord(other, 6, near+1)
	finds(t, g, at(ringOf, 0))
}

// P25.1: so many blocks are pending as dead heads are there, and leaf words of them that aren't 0, whatever else these are.
func TestPending(t *testing.T) {
	g := sample(t)
	finds(t, g)
	g.SetWord(gone, 8, 0)
	g.SetReg(6, 4)
	finds(t, g, at(leafOf, 6), at(countOf, other))
	g.SetWord(gone, 8, most)
	finds(t, g, at(linkOf, gone), at(leafOf, 6), at(countOf, other), at(pendingOf, 0))
	g.SetReg(6, 5)
	finds(t, g, at(linkOf, gone), at(leafOf, 6), at(countOf, other))
	// Both leaf words name the same leaf: what it holds is held twice.
	g.SetWord(gone, 8, 8)
	finds(t, g, at(leafOf, 6, 7), at(countOf, near, other))
	// Words behind the last leaf word, and those of heads that aren't dead, or aren't sound, count nothing.
	g.SetWord(gone, 10, 7)
	g.SetWord(shed, 10, 7)
	finds(t, g, at(leafOf, 6, 7), at(countOf, near, other))
	g = sample(t)
	g.SetWord(gone, 1, 4)
	finds(t, g, at(sizeOf, gone), at(leafOf, 6, 7), at(countOf, near, other), at(graveOf, 0), at(pendingOf, 0))
	layGrave(g, shed)
	g.SetReg(6, 2)
	finds(t, g, at(sizeOf, gone), at(leafOf, 6, 7), at(countOf, near, other))
	// Small ones have a head alone.
	g.SetWord(plain, 0, small+dead)
	g.SetWord(plain, 2, 3)
	g.SetWord(plain, 8, 5)
	g.SetWord(plain, 3, 0)
	g.SetRoot(2, 0)
	layGrave(g, plain, shed)
	finds(t, g, at(sizeOf, gone), at(leafOf, 6, 7), at(countOf, near, other), at(pendingOf, 0))
	g.SetReg(6, 3)
	finds(t, g, at(sizeOf, gone), at(leafOf, 6, 7), at(countOf, near, other))
}
