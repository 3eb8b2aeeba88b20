// Package pack is layer 1: several small numbers in one word of 32 bits.
package pack

import (
	"math/bits"

	"quitrent/api"
)

// wordBits is how many bits a word has.
const wordBits = 32

// Fits tells whether v is below 2^n.
func Fits(v uint32, n int) bool {
	return v>>max(n, 0) == 0
}

// Get answers the number of the piece of n bits from the bit at on, or 0 where there is no such piece.
func Get(w uint32, at, n int) uint32 {
	if !isPiece(at, n) {
		return 0
	}
	return w >> at & lowOnes(n)
}

// Put answers w with v as the piece of n bits from the bit at on.
func Put(w uint32, at, n int, v uint32) (uint32, api.Errno) {
	if !isPiece(at, n) {
		return 0, api.ErrArg
	}
	if !Fits(v, n) {
		return 0, api.ErrRange
	}
	return w&^(lowOnes(n)<<at) | v<<at, api.OK
}

// Ones answers how many bits of w are 1.
func Ones(w uint32) int {
	return bits.OnesCount32(w)
}

// Split answers the numbers of the pieces of those widths, from bit 0 on.
func Split(w uint32, widths ...int) ([]uint32, api.Errno) {
	all, right := together(widths)
	if !right {
		return nil, api.ErrArg
	}
	if !Fits(w, all) {
		return nil, api.ErrRange
	}
	l := make([]uint32, len(widths))
	at := 0
	for i, n := range widths {
		l[i] = Get(w, at, n)
		at += n
	}
	return l, api.OK
}

// Join answers the word whose pieces of those widths are the numbers of l, from bit 0 on.
func Join(l []uint32, widths ...int) (uint32, api.Errno) {
	_, right := together(widths)
	if !right || len(l) != len(widths) {
		return 0, api.ErrArg
	}
	w, at := uint32(0), 0
	for i, n := range widths {
		joined, err := Put(w, at, n, l[i])
		if err != api.OK {
			return 0, err
		}
		w = joined
		at += n
	}
	return w, api.OK
}

// isPiece tells whether a word has a piece of n bits from the bit at on.
func isPiece(at, n int) bool {
	// at is held against a difference: at and n together may be more than an int holds.
	return isWidth(n) && at >= 0 && at <= wordBits-n
}

// isWidth tells whether a piece may have n bits.
func isWidth(n int) bool {
	return n >= 1 && n <= wordBits
}

// together answers how many bits the widths have in all, and whether they are right.
func together(widths []int) (int, bool) {
	all := 0
	for _, n := range widths {
		// Asked at each width, so that the sum never grows beyond an int.
		if !isWidth(n) || all > wordBits-n {
			return 0, false
		}
		all += n
	}
	return all, true
}

// lowOnes answers the word of which just the n lowest bits are 1, for n from 1 to 32.
func lowOnes(n int) uint32 {
	return ^uint32(0) >> (wordBits - n)
}
