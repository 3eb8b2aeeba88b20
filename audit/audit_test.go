package audit_test

import (
	"slices"
	"testing"

	"quitrent/api"
	"quitrent/audit"
	"quitrent/ground"
	"quitrent/heap"
)

// tampered is what is done to the sample, and what is found then.
type tampered struct {
	what string
	do   func(g *ground.Ground)
	want [][]audit.Finding
}

// word answers a row in which one word of a block is made another one.
func word(what string, b, w, v int, want ...[]audit.Finding) tampered {
	return tampered{what, func(g *ground.Ground) { g.SetWord(b, w, uint32(v)) }, want}
}

// slot answers a row in which one root slot is made another one.
func slot(what string, s, v int, want ...[]audit.Finding) tampered {
	return tampered{what, func(g *ground.Ground) { g.SetRoot(s, v) }, want}
}

// all tells where something else is found of the sample behind each row.
func all(t *testing.T, rows ...tampered) {
	t.Helper()
	for _, row := range rows {
		g := sample(t)
		row.do(g)
		if l := check(t, g); !slices.Equal(l, slices.Concat(row.want...)) {
			t.Errorf("%s: %v, want %v", row.what, l, slices.Concat(row.want...))
		}
	}
}

// The words of tags: of one block, of a head and of a leaf, and marks and an owner beside them.
const (
	small    = 1
	spine    = 2
	leaf     = 3
	color    = 4
	dead     = 32
	ringed   = 64
	spare    = 128
	owner    = 256
	maxOwner = owner * (api.MaxN - 1)
)

// P25.1: of a new heap nothing is found; of the chapter's example one finding.
func TestExample(t *testing.T) {
	for _, c := range confs {
		h, err := heap.New(c)
		if err != api.OK {
			t.Fatal(c, err)
		}
		finds(t, h.Ground())
	}
	h, _ := heap.New(api.Conf{N: 2, W: 16, R: 1, K: 1})
	h.Ground().SetReg(2, 1)
	finds(t, h.Ground(), at(cleanOf, 0))
	h.Ground().SetReg(2, 2)
	finds(t, h.Ground())
	// Of a ground whose pool isn't opened, the chain of clean blocks alone isn't there.
	g, _ := ground.New(confs[2])
	finds(t, g, at(cleanOf, 0))
}

// P25.1: the word 0 of a block is no right tag's.
func TestTag(t *testing.T) {
	all(t,
		word("a spare bit of a clean one", free, 0, spare, at(tagOf, free), at(cleanOf, 0)),
		word("a mark of a clean one", free, 0, color, at(tagOf, free), at(cleanOf, 0)),
		word("an owner of a clean one", free, 0, owner, at(tagOf, free), at(cleanOf, 0)),
		word("the last block, all bits", 23, 0, most, at(tagOf, 23), at(cleanOf, 0)),
		word("a spare bit of a small one", plain, 0, small+spare, at(tagOf, plain), at(rootOf, 2)),
		word("an owner of a small one", plain, 0, small+owner, at(tagOf, plain), at(rootOf, 2)),
		word("an owner, the greatest", plain, 0, small+maxOwner, at(tagOf, plain), at(rootOf, 2)),
		word("the highest bit", plain, 0, small+1<<31, at(tagOf, plain), at(rootOf, 2)),
		word("a spare bit of a leaf", 3, 0, leaf+owner*wide+spare, at(tagOf, 3), at(linkOf, wide)),
		word("a mark of a leaf", 3, 0, leaf+owner*wide+color, at(tagOf, 3), at(linkOf, wide)),
		word("the mark Ring of a leaf", 3, 0, leaf+owner*wide+ringed, at(tagOf, 3), at(linkOf, wide)),
		word("an owner too great for any", 3, 0, leaf+maxOwner+owner, at(tagOf, 3), at(linkOf, wide)),
		// Of the leaves nobody names them, of the counts the fields of that one are missed.
		word("a spare bit of a spine", wide, 0, spine+ringed+spare,
			at(tagOf, wide), at(leafOf, 2, 3), at(nameOf, other), at(rootOf, 1), at(countOf, near, other), at(ringOf, 0)),
		word("a spare bit of a dead one", shed, 0, spine+dead+spare, at(tagOf, shed), at(leafOf, 9), at(graveOf, 0), at(pendingOf, 0)),
		word("a mark more", plain, 0, small+color+8+16),
	)
	// A wrong tag of all blocks: nothing else is known of any.
	g := sample(t)
	for b := range 24 {
		g.SetWord(b, 0, spare)
	}
	blocks := []int{0, 1, 2, 3, 4, 5, 6, 7, 8, 9, 10, 11, 12, 13, 14, 15, 16, 17, 18, 19, 20, 21, 22, 23}
	finds(t, g, at(tagOf, blocks...), at(rootOf, 0, 1, 2), at(cleanOf, 0), at(graveOf, 0), at(ringOf, 0), at(pendingOf, 0))
	// Any bits of each block: each bit of each tag turned, and numbers that are far apart.
	for b := range 24 {
		g := sample(t)
		was := g.SeeWord(b, 0)
		for bit := range 32 {
			g.SetWord(b, 0, was^1<<bit)
			check(t, g)
		}
		for n := uint32(0); n < 512; n++ {
			g.SetWord(b, 0, n)
			check(t, g)
			g.SetWord(b, 0, n*2654435761)
			check(t, g)
		}
	}
}

// P25.1: a tag says that there is a head, but the sizes say that there is none of that kind.
func TestSize(t *testing.T) {
	lost := [][]audit.Finding{at(sizeOf, wide), at(leafOf, 2, 3), at(nameOf, other), at(rootOf, 1), at(countOf, near, other), at(ringOf, 0)}
	all(t,
		word("as many words as a small one has", plain, 2, 8),
		word("as many fields as a small one has", plain, 1, 8),
		word("words of two blocks", plain, 2, 9, at(sizeOf, plain), at(rootOf, 2)),
		word("pointer fields of two blocks", plain, 1, 9, at(sizeOf, plain), at(rootOf, 2)),
		word("words of no object", plain, 2, 121, at(sizeOf, plain), at(rootOf, 2)),
		word("as many words as there can be", plain, 2, most, at(sizeOf, plain), at(rootOf, 2)),
		word("as many pointer fields as there can be", plain, 1, most, at(sizeOf, plain), at(rootOf, 2)),
		word("as many words as none, if they were cut to a byte", plain, 2, 1<<8, at(sizeOf, plain), at(rootOf, 2)),
		word("as many pointer fields as none, if they were cut to two bytes", plain, 1, 1<<16, at(sizeOf, plain), at(rootOf, 2)),
		word("as many words as none, if they were cut by a bit", plain, 2, 1<<31, at(sizeOf, plain), at(rootOf, 2)),
		word("a spine without fields", plain, 0, spine, at(sizeOf, plain), at(rootOf, 2)),
		tampered{"a spine of eight fields", func(g *ground.Ground) {
			g.SetWord(plain, 0, spine)
			g.SetWord(plain, 1, 3)
			g.SetWord(plain, 2, 5)
		}, [][]audit.Finding{at(sizeOf, plain), at(rootOf, 2)}},
		tampered{"a sum that goes round", func(g *ground.Ground) {
			g.SetWord(plain, 1, most)
			g.SetWord(plain, 2, 1)
		}, [][]audit.Finding{at(sizeOf, plain), at(rootOf, 2)}},
		word("a small one with leaves", wide, 0, small+ringed, lost...),
		word("one word more than an object has", wide, 2, 111, lost...),
		// Of nine blocks, but most of its leaves aren't there.
		word("as many words as an object has", wide, 2, 110, at(linkOf, wide)),
		// The last leaf is none of its own, as soon as the fields need but one.
		word("fewer words", wide, 2, 5, at(leafOf, 3)),
		word("fewer words, but as many leaves", wide, 2, 6),
		word("more words, but as many leaves", wide, 2, 20),
		word("one word more", wide, 2, 21, at(linkOf, wide)),
		word("a small dead one with leaves", gone, 0, small+dead,
			at(sizeOf, gone), at(leafOf, 6, 7), at(countOf, near, other), at(graveOf, 0), at(pendingOf, 0)),
		word("a clean one is a spine", free, 0, spine, at(sizeOf, free), at(cleanOf, 0)),
		// It is a sound head, but nobody names it.
		word("a clean one is a small one", free, 0, small, at(countOf, free), at(cleanOf, 0)),
	)
	g := bare(t, confs[2])
	for b := range 9 {
		g.SetWord(b, 0, spine)
	}
	finds(t, g, at(sizeOf, 0, 1, 2, 3, 4, 5, 6, 7, 8), at(cleanOf, 0))
	// Each width has its own sizes.
	for _, w := range []int{16, 17, 100, 255, 256} {
		g := bare(t, api.Conf{N: 1, W: w, R: 1, K: 1})
		g.SetRoot(0, 1)
		g.SetReg(0, 0)
		g.SetReg(1, 0)
		g.SetReg(2, 0)
		g.SetWord(0, 3, 1)
		for _, n := range []int{0, 1, w - 9, w - 8, w - 7, w - 1, (w - 8) * (w - 1), (w-8)*(w-1) + 1} {
			for ptrs := range 2 {
				g.SetWord(0, 1+ptrs, uint32(n))
				g.SetWord(0, 2-ptrs, 0)
				isSmall, isSpine := n <= w-8, n > w-8 && n <= (w-8)*(w-1)
				g.SetWord(0, 0, small)
				if l := check(t, g); isSmall != (len(l) == 0) {
					t.Error(w, n, "small", l)
				}
				g.SetWord(0, 0, spine)
				if l := check(t, g); isSpine != (len(l) == 1 && l[0] == audit.Finding{Kind: linkOf}) {
					t.Error(w, n, "spine", l)
				}
			}
		}
	}
}

// P25.1: a leaf word of a head names what is no leaf of it.
func TestLink(t *testing.T) {
	all(t,
		// The pointer fields lie in the leaf 0, so what they hold isn't held any more.
		word("the first leaf isn't there", wide, 8, 0, at(linkOf, wide), at(leafOf, 2), at(countOf, near, other)),
		word("the last leaf isn't there", wide, 9, 0, at(linkOf, wide), at(leafOf, 3)),
		word("a clean block", wide, 9, free+1, at(linkOf, wide), at(leafOf, 3)),
		word("the last block", wide, 9, 24, at(linkOf, wide), at(leafOf, 3)),
		word("no block", wide, 9, 25, at(linkOf, wide), at(leafOf, 3)),
		word("far from any block", wide, 9, most, at(linkOf, wide), at(leafOf, 3)),
		word("the last leaf, if it was cut to two bytes", wide, 9, 1<<16+4, at(linkOf, wide), at(leafOf, 3)),
		word("the first leaf, if it was cut to two bytes", wide, 8, 1<<16+3, at(linkOf, wide), at(leafOf, 2), at(countOf, near, other)),
		word("the first leaf is no block", wide, 8, 25, at(linkOf, wide), at(leafOf, 2), at(countOf, near, other)),
		word("itself", wide, 9, wide+1, at(linkOf, wide), at(leafOf, 3)),
		word("a small one", wide, 9, plain+1, at(linkOf, wide), at(leafOf, 3)),
		word("a leaf of another one", wide, 9, 7, at(linkOf, wide), at(leafOf, 3)),
		word("the leaf of another one that has one alone", wide, 9, 10, at(linkOf, wide), at(leafOf, 3)),
		word("a leaf that another leaf word names", wide, 9, 3, at(leafOf, 2, 3)),
		word("the other leaf first", wide, 8, 4, at(leafOf, 2, 3), at(countOf, near, other)),
		word("a leaf of a dead one isn't there", gone, 9, 0, at(leafOf, 7), at(countOf, near), at(pendingOf, 0)),
		word("a leaf of a dead one is no block", gone, 9, 25, at(linkOf, gone), at(leafOf, 7), at(countOf, near)),
		word("a leaf that was shed is a clean one", shed, 9, 11, at(linkOf, shed), at(pendingOf, 0)),
		word("a leaf that was shed is the other one", shed, 9, 10, at(leafOf, 9), at(pendingOf, 0)),
		word("a leaf that was shed is no block", shed, 9, most, at(linkOf, shed), at(pendingOf, 0)),
		word("no leaf of a dead one is there", shed, 8, 0, at(leafOf, 9), at(pendingOf, 0)),
		word("a leaf that is clean", 3, 0, 0, at(linkOf, wide), at(cleanOf, 0)),
		word("a leaf that is a small one", 3, 0, small, at(linkOf, wide), at(countOf, 3)),
		word("a leaf that is a spine", 3, 0, spine, at(sizeOf, 3), at(linkOf, wide)),
		word("behind the last leaf word", wide, 10, 25),
		word("where a small one has no fields", near, 15, 25),
		tampered{"both leaves, the other way round", func(g *ground.Ground) {
			g.SetWord(wide, 8, 4)
			g.SetWord(wide, 9, 3)
		}, [][]audit.Finding{at(countOf, near, other)}},
		tampered{"both aren't there", func(g *ground.Ground) {
			g.SetWord(wide, 8, 0)
			g.SetWord(wide, 9, 0)
		}, [][]audit.Finding{at(linkOf, wide), at(leafOf, 2, 3), at(countOf, near, other)}},
		tampered{"of two heads", func(g *ground.Ground) {
			g.SetWord(shed, 9, 12)
			g.SetWord(wide, 9, 12)
		}, [][]audit.Finding{at(linkOf, wide, shed), at(leafOf, 3), at(pendingOf, 0)}},
	)
	// A block that is no leaf is a leaf word's block all the same: its words are fields.
	g := sample(t)
	g.SetWord(wide, 8, 24)
	finds(t, g, at(linkOf, wide), at(leafOf, 2), at(countOf, near, other))
	g.SetWord(23, 1, near+1)
	g.SetWord(23, 10, other+1)
	finds(t, g, at(linkOf, wide), at(leafOf, 2))
	g.SetWord(23, 2, 25)
	finds(t, g, at(linkOf, wide), at(leafOf, 2), at(nameOf, wide))
	// Of all that have leaves one that isn't dead has none of them.
	g = sample(t)
	for _, b := range []int{wide, gone, shed} {
		g.SetWord(b, 8, 0)
		g.SetWord(b, 9, 0)
	}
	finds(t, g, at(linkOf, wide), at(leafOf, 2, 3, 6, 7, 9), at(countOf, near, other), at(pendingOf, 0))
}

// P25.1: a leaf that its owner doesn't name just once.
func TestLeaf(t *testing.T) {
	all(t,
		word("one more of a spine", free, 0, leaf+owner*wide, at(leafOf, free), at(cleanOf, 0)),
		word("one of a small one", free, 0, leaf+owner*plain, at(leafOf, free), at(cleanOf, 0)),
		word("one of a clean one", free, 0, leaf+owner*20, at(leafOf, free), at(cleanOf, 0)),
		word("one of its own", free, 0, leaf+owner*free, at(leafOf, free), at(cleanOf, 0)),
		word("one of a leaf", free, 0, leaf+owner*2, at(leafOf, free), at(cleanOf, 0)),
		word("one of no block", free, 0, leaf+owner*24, at(leafOf, free), at(cleanOf, 0)),
		word("one of the greatest owner", free, 0, leaf+maxOwner, at(leafOf, free), at(cleanOf, 0)),
		word("another owner", 2, 0, leaf+owner*gone, at(linkOf, wide), at(leafOf, 2)),
		word("an owner without a block", 2, 0, leaf+owner*24, at(linkOf, wide), at(leafOf, 2)),
		word("the owner 0", 2, 0, leaf, at(linkOf, wide), at(leafOf, 2)),
		word("the leaf of a dead one has another owner", 9, 0, leaf+owner*gone, at(linkOf, shed), at(leafOf, 9)),
		tampered{"two of the same owner, where one is named", func(g *ground.Ground) {
			g.SetWord(free, 0, leaf+owner*wide)
			g.SetWord(wide, 9, free+1)
		}, [][]audit.Finding{at(leafOf, 3), at(cleanOf, 0)}},
		// Both leaves hold near in one of those fields.
		word("one that another one names, too", gone, 9, 3, at(linkOf, gone), at(leafOf, 7)),
		// What a word behind the last leaf word, or a field of a small one, holds names no leaf.
		tampered{"one that is named behind the last leaf word", func(g *ground.Ground) {
			g.SetWord(free, 0, leaf+owner*wide)
			g.SetWord(wide, 10, free+1)
		}, [][]audit.Finding{at(leafOf, free), at(cleanOf, 0)}},
		tampered{"one that is named by a word of a small one", func(g *ground.Ground) {
			g.SetWord(free, 0, leaf+owner*near)
			g.SetWord(near, 10, free+1)
		}, [][]audit.Finding{at(leafOf, free), at(cleanOf, 0)}},
	)
	g := bare(t, confs[2])
	for b := range 9 {
		g.SetWord(b, 0, leaf)
	}
	finds(t, g, at(leafOf, 0, 1, 2, 3, 4, 5, 6, 7, 8), at(cleanOf, 0))
}

// P25.1: a pointer field that holds what is no object that is alive.
func TestName(t *testing.T) {
	all(t,
		word("a leaf", near, 9, 3, at(nameOf, near), at(countOf, near)),
		word("a dead head", near, 9, gone+1, at(nameOf, near), at(countOf, near, gone)),
		word("a clean block", near, 9, free+1, at(nameOf, near), at(countOf, near)),
		word("the last block", near, 9, 24, at(nameOf, near), at(countOf, near)),
		word("behind the last block", near, 9, 25, at(nameOf, near), at(countOf, near)),
		word("far from any block", near, 9, most, at(nameOf, near), at(countOf, near)),
		word("as it was, if it was cut to two bytes", near, 9, 1<<16+near+1, at(nameOf, near), at(countOf, near)),
		word("nothing", near, 9, 0, at(countOf, near)),
		word("another one", near, 9, plain+1, at(countOf, near, plain)),
		word("another one's field holds it", lone, 8, near+1, at(countOf, near, lone)),
		word("itself", other, 8, other+1, at(countOf, wide, other)),
		word("a word that is no pointer field", near, 10, 25),
		word("behind the last field", near, 11, 25),
		word("a field of a leaf", 2, 10, 25, at(nameOf, wide), at(countOf, other)),
		word("a field of a leaf holds a dead one", 2, 1, shed+1, at(nameOf, wide), at(countOf, near, shed)),
		word("a field of a leaf that held nothing", 2, 5, 25, at(nameOf, wide)),
		word("a word of a leaf", 2, 11, 25),
		word("a word of the last leaf", 3, 1, 25),
		word("a field of a dead one", 6, 1, most, at(nameOf, gone), at(countOf, other)),
		word("a field of the last leaf of a dead one", 7, 3, gone+1, at(nameOf, gone), at(countOf, gone)),
		word("a word behind the last field of a dead one", 7, 4, gone+1),
		word("any word of a clean one", free, 8, 25),
	)
	// Fields of all that have any, of the dead one too.
	g := sample(t)
	for _, at := range [][2]int{{near, 8}, {2, 10}, {other, 8}, {7, 3}, {lone, 8}} {
		g.SetWord(at[0], at[1], 3)
	}
	finds(t, g, at(nameOf, near, wide, other, gone, lone), at(countOf, wide, other, lone))
	// A field in a leaf that isn't there holds 0, also where another one that held it had it there.
	g = sample(t)
	g.SetWord(7, 3, 25)
	finds(t, g, at(nameOf, gone))
	g.SetWord(gone, 9, 0)
	finds(t, g, at(leafOf, 7), at(countOf, near), at(pendingOf, 0))
	g.SetWord(gone, 9, 25)
	finds(t, g, at(linkOf, gone), at(leafOf, 7), at(countOf, near))
}

// P25.1: a slot that holds what is no object that is alive.
func TestRoot(t *testing.T) {
	all(t,
		slot("nothing", 3, 0),
		slot("a leaf", 3, 3, at(rootOf, 3)),
		slot("a dead head", 3, gone+1, at(rootOf, 3), at(countOf, gone)),
		slot("a clean block", 3, free+1, at(rootOf, 3)),
		slot("the last block", 4, 24, at(rootOf, 4)),
		slot("behind the last block", 4, 25, at(rootOf, 4)),
		slot("far from any block", 4, most, at(rootOf, 4)),
		slot("as it was, if it was cut to two bytes", 0, 1<<16+near+1, at(rootOf, 0), at(countOf, near)),
		slot("one more", 3, lone+1, at(countOf, lone)),
		slot("one fewer", 0, 0, at(countOf, near)),
		slot("another one", 0, wide+1, at(countOf, near, wide)),
		tampered{"all of them", func(g *ground.Ground) {
			for s := range 5 {
				g.SetRoot(s, free+1)
			}
		}, [][]audit.Finding{at(rootOf, 0, 1, 2, 3, 4), at(countOf, near, wide, plain)}},
		tampered{"the other way round", func(g *ground.Ground) {
			for s, b := range []int{plain, near, wide} {
				g.SetRoot(2+s, b+1)
				g.SetRoot(s, 0)
			}
			g.SetRoot(2, plain+1)
		}, nil},
	)
}

// P25.1: a count that isn't how often a head is named.
func TestCount(t *testing.T) {
	all(t,
		word("one too many", near, 3, 5, at(countOf, near)),
		word("one too few", near, 3, 3, at(countOf, near)),
		word("none of several", near, 3, 0, at(countOf, near)),
		word("as many as can be", near, 3, most, at(countOf, near)),
		word("one too many of one without fields", plain, 3, 2, at(countOf, plain)),
		word("none of one", plain, 3, 0, at(countOf, plain)),
		word("as many as there are, if it was cut to two bytes", near, 3, 1<<16+4, at(countOf, near)),
		word("one of a dead one", gone, 3, 1, at(countOf, gone)),
		word("as many as can be of a dead one", shed, 3, most, at(countOf, shed)),
		word("that word of a leaf, which is a field", 3, 3, 7),
		word("that word of a clean one", free, 3, 7),
		tampered{"a dead one that is named as often as counted", func(g *ground.Ground) {
			g.SetRoot(3, gone+1)
			g.SetWord(gone, 3, 1)
		}, [][]audit.Finding{at(rootOf, 3), at(countOf, gone)}},
		tampered{"one that isn't dead, and is counted and named never", func(g *ground.Ground) {
			g.SetRoot(2, 0)
			g.SetWord(plain, 3, 0)
		}, [][]audit.Finding{at(countOf, plain)}},
		tampered{"all of them", func(g *ground.Ground) {
			for _, b := range []int{plain, near, wide, other, gone, shed, lone} {
				g.SetWord(b, 3, 9)
			}
		}, [][]audit.Finding{at(countOf, near, wide, other, gone, shed, lone, plain)}},
		tampered{"slots and fields together", func(g *ground.Ground) {
			g.SetRoot(3, near+1)
			g.SetRoot(4, near+1)
			g.SetWord(2, 2, near+1)
			g.SetWord(6, 2, near+1)
			g.SetWord(near, 3, 8)
		}, nil},
	)
}

// P25.1: several findings of several kinds, of one block and of others: by rising kinds, and of one kind by rising places.
func TestSeveral(t *testing.T) {
	g := sample(t)
	g.SetWord(23, 0, spare)
	g.SetWord(plain, 0, spare)
	g.SetWord(20, 0, spine)
	g.SetWord(lone, 2, 100)
	g.SetWord(shed, 9, 25)
	g.SetWord(wide, 9, 25)
	g.SetWord(free, 0, leaf)
	g.SetWord(7, 3, 25)
	g.SetWord(near, 9, 25)
	g.SetRoot(4, 25)
	g.SetRoot(0, 25)
	g.SetWord(other, 3, 77)
	for _, r := range []int{2, 4, 6, 7} {
		g.SetReg(r, 25)
	}
	finds(t, g, at(tagOf, plain, 23), at(sizeOf, lone, 20), at(linkOf, wide, shed), at(leafOf, 3, free), at(nameOf, near, gone),
		at(rootOf, 0, 2, 4), at(countOf, near, other), at(cleanOf, 0), at(graveOf, 0), at(ringOf, 0), at(pendingOf, 0))
	// Of one block as many as there can be: it links, names and counts wrong.
	g = sample(t)
	g.SetWord(wide, 9, 0)
	g.SetWord(2, 2, 25)
	g.SetWord(wide, 3, 9)
	finds(t, g, at(linkOf, wide), at(leafOf, 3), at(nameOf, wide), at(countOf, wide))
}

// P25.2: each kind's word, and nothing of another one.
func TestWord(t *testing.T) {
	words := []string{"", "tag", "size", "link", "leaf", "name", "root", "count", "clean", "grave", "ring", "pending"}
	kinds := []int{0, audit.Tag, audit.Size, audit.Link, audit.Leaf, audit.Name, audit.Root, audit.Count, audit.Clean, audit.Grave, audit.Ring, audit.Pending}
	for i, kind := range kinds {
		if kind != i || audit.Word(kind) != words[i] {
			t.Errorf("%d, want %d: %q, want %q", kind, i, audit.Word(kind), words[i])
		}
	}
	for _, kind := range append([]int{0, 12, 13, -1, -11, 256, 257}, far...) {
		if w := audit.Word(kind); w != "" {
			t.Errorf("%d: %q", kind, w)
		}
	}
}

// P25.1: of a nil ground nothing is found.
func TestNil(t *testing.T) {
	if l := audit.Check(nil); len(l) != 0 || !audit.Sound(nil) {
		t.Error(l, audit.Sound(nil))
	}
}

// P25.1: what is answered is memory of its own.
func TestOwnMemory(t *testing.T) {
	g := sample(t)
	g.SetReg(0, 0)
	g.SetRoot(4, 25)
	for range 2 {
		clear(audit.Check(g))
		finds(t, g, at(rootOf, 4), at(cleanOf, 0))
	}
}

// P25.1: of many blocks, each of which says that it is as great as can be and that it has its fields in itself, all is found; nothing is of a great heap that is full.
func TestGreat(t *testing.T) {
	c := api.Conf{N: 1000, W: 256, R: 2, K: 1}
	g := bare(t, c)
	var want []audit.Finding
	for b := range c.N {
		g.SetWord(b, 0, spine)
		g.SetWord(b, 1, 248*255)
		for w := 8; w < c.W; w++ {
			g.SetWord(b, w, uint32(b+1))
		}
	}
	for _, kind := range []int{linkOf, nameOf, countOf} {
		for b := range c.N {
			want = append(want, audit.Finding{Kind: kind, At: b})
		}
	}
	if l := audit.Check(g); !slices.Equal(l, append(want, at(cleanOf, 0)...)) {
		t.Error(len(l), len(want))
	}
	h, err := heap.New(api.Conf{N: 30000, W: 16, R: 2, K: 1})
	for n := 0; err == api.OK; n++ {
		if err = h.Alloc(1, 1+n%20, n%4); err == api.OK {
			h.Store(1, n%20, 0)
			h.Copy(0, 1)
		}
	}
	if l := audit.Check(h.Ground()); err != api.ErrFull || h.Clean() > 2 || len(l) != 0 || !audit.Sound(h.Ground()) {
		t.Error(err, h.Clean(), l)
	}
	h.Ground().SetWord(29000, 0, spare)
	if l := audit.Check(h.Ground()); len(l) == 0 || l[0] != (audit.Finding{Kind: tagOf, At: 29000}) || audit.Sound(h.Ground()) {
		t.Error(l)
	}
}
