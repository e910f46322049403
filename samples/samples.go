// Package samples has the stores, terms, numbers and texts that the layers' tests try. No layer calls it.
package samples

import (
	"math"
	"slices"
	"strings"

	"sough/api"
	"sough/term"
)

// Store is a store with room for so many, in which these terms are put.
func Store(most int, l ...term.Term) *term.Store {
	s, err := term.New(most)
	if err != api.OK {
		panic("no store may be so great")
	}
	for _, x := range l {
		Put(s, x)
	}
	return s
}

// Put puts a term that may be, where there is room for it.
func Put(s *term.Store, x term.Term) int {
	name, err := s.Put(x)
	if err != api.OK {
		panic("no term may be put so")
	}
	return name
}

// Nonce is a term without parts.
func Nonce(n uint64) term.Term { return term.Term{Kind: term.Nonce, N: n} }

// Text is the term of a text.
func Text(s string) term.Term { return term.Term{Kind: term.Text, S: s} }

// Hash is that of two terms.
func Hash(a, b int) term.Term { return term.Term{Kind: term.Hash, A: a, B: b} }

// Key is one that is derived of a term, with a label.
func Key(of int, label uint64) term.Term { return term.Term{Kind: term.Key, A: of, N: label} }

// Seal is what is sealed by a key, with a number, and what stands beside.
func Seal(key int, n uint64, beside, plain int) term.Term {
	return term.Term{Kind: term.Seal, A: key, N: n, B: beside, C: plain}
}

// Pub is the public key of a secret.
func Pub(secret int) term.Term { return term.Term{Kind: term.Pub, A: secret} }

// Share is what two secrets share, the lesser name first.
func Share(a, b int) term.Term { return term.Term{Kind: term.Share, A: a, B: b} }

// Kpub is the wrapping key of a secret.
func Kpub(secret int) term.Term { return term.Term{Kind: term.Kpub, A: secret} }

// Box is what is wrapped for a secret, with what was drawn.
func Box(secret, drawn int) term.Term { return term.Term{Kind: term.Box, A: secret, B: drawn} }

// Kem is the secret that is in such a box.
func Kem(secret, drawn int) term.Term { return term.Term{Kind: term.Kem, A: secret, B: drawn} }

// Pair is one of two terms.
func Pair(a, b int) term.Term { return term.Term{Kind: term.Pair, A: a, B: b} }

// OfEachKind is a term of each kind, by rising kinds, that may all be in a store, put in this order: so each one's name is its kind.
func OfEachKind() []term.Term {
	return []term.Term{
		{Kind: term.Text, S: "ab"},
		{Kind: term.Nonce, N: 7},
		{Kind: term.Pub, A: 2},
		{Kind: term.Share, A: 1, B: 2},
		{Kind: term.Kpub, A: 2},
		{Kind: term.Box, A: 2, B: 1},
		{Kind: term.Kem, A: 2, B: 1},
		{Kind: term.Hash, A: 2, B: 1},
		{Kind: term.Key, A: 2, N: 9},
		{Kind: term.Seal, A: 9, N: 3, B: 8, C: 1},
		{Kind: term.Pair, A: 2, B: 1},
	}
}

// FullAndRoomy are stores of a term of each kind, with no room, with room for one and two more, and with more than enough.
func FullAndRoomy() []*term.Store {
	var l []*term.Store
	terms := OfEachKind()
	for _, room := range []int{0, 1, 2, 20} {
		l = append(l, Store(len(terms)+room, terms...))
	}
	return l
}

// NoNames are numbers that are no term's name there.
func NoNames(s *term.Store) []int {
	return []int{0, -1, -2, math.MinInt, s.Len() + 1, s.Len() + 2, api.MaxTerms + 1, math.MaxInt}
}

// Numbers are those that a term may have, the edges and some between; no term of OfEachKind has one of these.
func Numbers() []uint64 {
	return []uint64{0, 1, 2, 255, 256, 1 << 32, 1<<63 - 1, 1 << 63, math.MaxUint64 - 1, math.MaxUint64}
}

// Above32 are numbers above 2^32, also some whose last 32 bits are those of a small one, and some that turn below 0 as an int.
func Above32() []uint64 {
	return []uint64{1<<32 + 1, 1<<32 + 2, 1 << 33, 1<<33 + 1, 1 << 40, 1<<63 - 1, 1 << 63, 1<<63 + 1, math.MaxUint64}
}

// NoNumbers are bytes that begin with what is no number's: a first digit of 0, or too many digits.
func NoNumbers() []string {
	zeros := strings.Repeat("\x80", 8)
	return []string{"\x80", "\x80\x00", "\x80\x01", "\x80\x81\x00", "\x82" + zeros + "\x00", "\x82" + zeros + "\x01", strings.Repeat("\xff", 9) + "\x7f", strings.Repeat("\xff", 10), "\x81" + zeros + "\x80\x80", strings.Repeat("\xff", 40) + "\x00"}
}

// ShortNumbers are bytes of numbers that end too early.
func ShortNumbers() []string {
	return []string{"", "\x81", "\xff", "\x81\x80", "\x90\x80\x80\x80", "\xff\xff\xff\xff\xff\xff\xff", "\x82" + strings.Repeat("\x80", 8)}
}

// All are a store's terms, in the order of their names.
func All(s *term.Store) []term.Term {
	var l []term.Term
	for name := 1; name <= s.Len(); name++ {
		x, _ := s.Get(name)
		l = append(l, x)
	}
	return l
}

// With are terms with another one behind them, unless it is there, and its name.
func With(l []term.Term, x term.Term) ([]term.Term, int) {
	if place := slices.Index(l, x); place >= 0 {
		return l, place + 1
	}
	return append(slices.Clip(l), x), len(l) + 1
}

// EachByte is a text of each byte that there is, rising.
func EachByte() string {
	l := make([]byte, 1+math.MaxUint8)
	for i := range l {
		l[i] = byte(i)
	}
	return string(l)
}

// OfSize is a text of so many bytes; what stands at places that are near each other is unlike, and so are pieces of it that are.
func OfSize(size int) string {
	l := make([]byte, size)
	for i := range l {
		l[i] = byte(i%251) ^ byte(i/251*16)
	}
	return string(l)
}

// Texts calls f with every text of at most so many bytes, of those of the alphabet.
func Texts(alphabet string, most int, f func(s string)) {
	var grow func(s string)
	grow = func(s string) {
		f(s)
		if len(s) == most {
			return
		}
		for i := range len(alphabet) {
			grow(s + alphabet[i:i+1])
		}
	}
	grow("")
}

// Orders calls f with a list in each of its orders; f neither changes nor keeps what it is given.
func Orders[T any](l []T, f func(l []T)) {
	l = slices.Clone(l)
	var fix func(place int)
	fix = func(place int) {
		if place == len(l) {
			f(l)
			return
		}
		for i := place; i < len(l); i++ {
			l[place], l[i] = l[i], l[place]
			fix(place + 1)
			l[place], l[i] = l[i], l[place]
		}
	}
	fix(0)
}
