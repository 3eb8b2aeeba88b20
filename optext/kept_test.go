package optext_test

import (
	"math"
	"math/big"
	"regexp"
	"slices"
	"strconv"
	"strings"

	"quitrent/api"
	"quitrent/optext"
)

// most is the greatest number that a word can hold; least and great are the ends of what the other numbers of a line may be.
const (
	most  = math.MaxUint32
	least = math.MinInt32
	great = math.MaxInt32
)

// far are numbers that no line has; some would be right, if they went round or were cut to fewer bits.
var far = []int{math.MinInt, math.MinInt + 1, -1 << 62, -1 << 33, -1<<32 + 1, -1 << 32, least - 2, least - 1, great + 1, great + 2, most, 1 << 32, 1<<32 + 1, 1<<32 + 10, 1 << 50, 1 << 62, math.MaxInt - 1, math.MaxInt}

// near are numbers that a line may have.
var near = []int{least, least + 1, -1000000007, -65536, -10, -9, -1, 0, 1, 9, 10, 11, 99, 100, 255, 256, 1048577, 1000000000, great - 1, great}

// values are words.
var values = []uint32{0, 1, 9, 10, 4096, great, great + 1, 1 << 31, most - 1, most}

// wrongKinds are numbers that are no kinds of operations.
var wrongKinds = append([]int{0, -1, -2, -9, -10, 11, 12, 16, 255, 256, 257, 266}, far...)

// wrongNumbers are texts that are no number's.
var wrongNumbers = []string{
	"", "-", "+", "--", "+1", "+0", "-0", "--1", "-+1", "+-1", "00", "01", "-01", "-00", "000", "007", "0-", "1-", "1-2", "0x1", "0b1", "0o7", "1e3", "1E3", "1.", "1.0", ".5", "1,000", "1_000", "_1", "1_",
	" ", " 1", "1 ", "\t1", "1\t", "1\n", "\n1", "1\r", "1\x00", "\x001", "\x00", "/", ":", "1/", "1:", "/1", ":1", "a", "1a", "a1", "f", "NaN", "Inf", "-Inf", "nil", "one", "١", "１", "−1", "1½", "\xff", "1\xff", "1²", "0٠",
}

// kind is what layer 22 says of a kind: its name, and what it needs.
type kind struct {
	number      int
	name, needs string
}

// kinds are all kinds, in their order.
var kinds = []kind{
	{1, "alloc", "ABC"},
	{2, "load", "ABC"},
	{3, "store", "ABC"},
	{4, "read", "AB"},
	{5, "write", "ABV"},
	{6, "copy", "AB"},
	{7, "drop", "A"},
	{8, "same", "AB"},
	{9, "len", "A"},
	{10, "tick", ""},
}

// wants tells whether a kind needs the number of that name.
func (k kind) wants(name byte) bool {
	return strings.IndexByte(k.needs, name) >= 0
}

// lies answers from where to where the i-th number of a kind's line may lie.
func (k kind) lies(i int) (int, int) {
	if k.needs[i] == 'V' {
		return 0, most
	}
	return least, great
}

// with answers an operation whose number of that name is n.
func with(o api.Op, name byte, n int) api.Op {
	switch name {
	case 'A':
		o.A = n
	case 'B':
		o.B = n
	case 'C':
		o.C = n
	default:
		o.V = uint32(n)
	}
	return o
}

// made answers an operation of a kind, out of the numbers that it needs.
func (k kind) made(l []int) api.Op {
	o := api.Op{Kind: k.number}
	for i := range len(k.needs) {
		o = with(o, k.needs[i], l[i])
	}
	return o
}

// stuffed answers an operation with what its kind doesn't need set to n.
func (k kind) stuffed(o api.Op, n int) api.Op {
	for _, name := range []byte("ABCV") {
		if !k.wants(name) {
			o = with(o, name, n)
		}
	}
	return o
}

// line answers the line of a word and numbers.
func line(word string, l []int) string {
	words := []string{word}
	for _, n := range l {
		words = append(words, strconv.Itoa(n))
	}
	return strings.Join(words, " ")
}

// plainNumber is what a number's text looks like.
var plainNumber = regexp.MustCompile(`\A(0|-?[1-9][0-9]*)\z`)

// numberOf is what Number should answer.
func numberOf(s string, low, high int) (int, api.Errno) {
	if !plainNumber.MatchString(s) {
		return 0, api.ErrForm
	}
	n, _ := new(big.Int).SetString(s, 10)
	if n.Cmp(big.NewInt(int64(low))) < 0 || n.Cmp(big.NewInt(int64(high))) > 0 {
		return 0, api.ErrRange
	}
	return int(n.Int64()), api.OK
}

// opOf is what Op should answer.
func opOf(s string) (api.Op, api.Errno) {
	words := strings.Split(s, " ")
	at := slices.IndexFunc(kinds, func(k kind) bool { return k.name == words[0] })
	if at < 0 || len(words)-1 != len(kinds[at].needs) {
		return api.Op{}, api.ErrForm
	}
	var l []int
	for i, w := range words[1:] {
		low, high := kinds[at].lies(i)
		n, err := numberOf(w, low, high)
		if err != api.OK {
			return api.Op{}, err
		}
		l = append(l, n)
	}
	return kinds[at].made(l), api.OK
}

// confOf is what Conf should answer.
func confOf(s string) (api.Conf, api.Errno) {
	words := strings.Split(s, " ")
	if words[0] != "heap" || len(words) != 5 {
		return api.Conf{}, api.ErrForm
	}
	var l [4]int
	for i, w := range words[1:] {
		n, err := numberOf(w, least, great)
		if err != api.OK {
			return api.Conf{}, err
		}
		l[i] = n
	}
	return api.Conf{N: l[0], W: l[1], R: l[2], K: l[3]}, api.OK
}

// scriptOf is what Parse should answer.
func scriptOf(s string) (optext.Script, optext.Fault) {
	lines := strings.SplitAfter(s, "\n")
	if lines[len(lines)-1] == "" {
		lines = lines[:len(lines)-1]
	}
	if len(lines) == 0 {
		return optext.Script{}, optext.Fault{Err: api.ErrEnd, Line: 1}
	}
	var x optext.Script
	for i, l := range lines {
		err := api.ErrForm
		bare, ended := strings.CutSuffix(l, "\n")
		var o api.Op
		switch {
		case i > 5000:
			err = api.ErrLimit
		case !ended:
		case i == 0:
			x.Conf, err = confOf(bare)
		default:
			o, err = opOf(bare)
			x.Ops = append(x.Ops, o)
		}
		if err != api.OK {
			return optext.Script{}, optext.Fault{Err: err, Line: i + 1}
		}
	}
	return x, optext.Fault{}
}

// alike tells whether two scripts are the same.
func alike(a, b optext.Script) bool {
	return a.Conf == b.Conf && slices.Equal(a.Ops, b.Ops)
}

// chance answers a row of numbers that is the same at each run.
func chance(seed uint32) func(int) int {
	return func(bound int) int {
		seed = seed*1664525 + 1013904223
		return int(seed>>8) % bound
	}
}

// anyNumber answers a number that a line may have.
func anyNumber(next func(int) int) int {
	if next(3) == 0 {
		return near[next(len(near))]
	}
	return next(40) - 10
}

// anyOp answers an operation that has a line, and nothing that its kind doesn't need.
func anyOp(next func(int) int) api.Op {
	k := kinds[next(len(kinds))]
	var l []int
	for i := range len(k.needs) {
		n := anyNumber(next)
		if k.needs[i] == 'V' {
			n = int(values[next(len(values))])
		}
		l = append(l, n)
	}
	return k.made(l)
}

// anyScript answers a script that has a text.
func anyScript(next func(int) int, ops int) optext.Script {
	x := optext.Script{Conf: api.Conf{N: anyNumber(next), W: anyNumber(next), R: anyNumber(next), K: anyNumber(next)}}
	for range ops {
		x.Ops = append(x.Ops, anyOp(next))
	}
	return x
}

// spoilt answers a text with a few bytes taken out, put in or changed to others that texts of scripts have, or nearly have.
func spoilt(next func(int) int, s string) string {
	const bytes = "0123456789--  \n\n\r\t+_a\x00\xffheaptickcopy"
	b := []byte(s)
	for range 1 + next(3) {
		at := next(len(b) + 1)
		switch next(4) {
		case 0:
			b = slices.Insert(b, at, bytes[next(len(bytes))])
		case 1:
			b = slices.Delete(b, at, min(at+1+next(2), len(b)))
		case 2:
			if at < len(b) {
				b[at] = bytes[next(len(bytes))]
			}
		case 3:
			b = slices.Insert(b, at, b[at:min(at+1+next(6), len(b))]...)
		}
	}
	return string(b)
}
