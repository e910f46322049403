// Package vint is layer 1: numbers and texts as bytes. See shared/doc/01-vint.md.
package vint

import (
	"math"
	"math/bits"
	"strings"

	"sough/api"
)

// A digit has digitBits bits; more is what each digit but the last one has added to it.
const (
	digitBits = 7
	more      = 1 << digitBits
)

// Put is a number's bytes.
func Put(n uint64) string {
	// A zero has no bits, but is told by one digit all the same.
	count := max(1, (bits.Len64(n)+digitBits-1)/digitBits)
	digits := make([]byte, count)
	rest := n
	put := func(place int) {
		digits[place] = byte(rest%more) + more
		rest /= more
	}
	for i := range count {
		put(count - 1 - i)
	}
	digits[count-1] -= more
	return string(digits)
}

// Get is the number that stands at a place, and the place behind it.
func Get(s string, at int) (uint64, int, api.Errno) {
	if at < 0 || at > len(s) {
		return 0, 0, api.ErrArg
	}
	n := uint64(0)
	for i := at; i < len(s); i++ {
		// A first digit of 0 with others behind it would make a second way to write a number.
		if i == at && s[i] == more {
			return 0, 0, api.ErrForm
		}
		if !hasRoom(n) {
			return 0, 0, api.ErrForm
		}
		n = n*more + uint64(s[i]%more)
		if s[i] < more {
			return n, i + 1, api.OK
		}
	}
	return 0, 0, api.ErrShort
}

// hasRoom tells whether a number with one more digit, whichever, is still one of 64 bits.
func hasRoom(n uint64) bool { return n <= math.MaxUint64/more }

// PutText is a text with its length ahead.
func PutText(s string) string { return Put(uint64(len(s))) + s }

// GetText is the text that stands at a place, of at most so many bytes, and the place behind it.
func GetText(s string, at, most int) (string, int, api.Errno) {
	size, from, err := Get(s, at)
	if err != api.OK {
		return "", 0, err
	}
	// Lengths are compared as they stand: one above an int's greatest must not turn negative.
	if size > uint64(max(most, 0)) {
		return "", 0, api.ErrBig
	}
	if size > uint64(len(s)-from) {
		return "", 0, api.ErrShort
	}
	to := from + int(size)
	// A piece of s would share, and hold on to, all of it.
	return strings.Clone(s[from:to]), to, api.OK
}
