package sym

import (
	"math"
	"math/rand"
	"slices"
	"strings"
	"testing"

	"sough/api"
	"sough/samples"
	"sough/term"
)

// last is the number with which nothing is sealed any more.
const last = math.MaxUint64

// told is what a call tells: a state, two names, an error; what a call has none of is zero.
type told struct {
	state         Sym
	first, second int
	err           api.Errno
}

// call is one of the package's calls.
type call func() told

func beginning(s *term.Store, name string) call {
	return func() told {
		y, err := Begin(s, name)
		return told{state: y, err: err}
	}
}

func saying(s *term.Store, y Sym, x int) call {
	return func() told {
		y, err := y.Hash(s, x)
		return told{state: y, err: err}
	}
}

func mixing(s *term.Store, y Sym, x int) call {
	return func() told {
		y, err := y.Mix(s, x)
		return told{state: y, err: err}
	}
}

func sealing(s *term.Store, y Sym, plain int) call {
	return func() told {
		y, name, err := y.Seal(s, plain)
		return told{state: y, first: name, err: err}
	}
}

func opening(s *term.Store, y Sym, name int) call {
	return func() told {
		y, plain, err := y.Open(s, name)
		return told{state: y, first: plain, err: err}
	}
}

func splitting(s *term.Store, y Sym) call {
	return func() told {
		first, second, err := y.Split(s)
		return told{first: first, second: second, err: err}
	}
}

// answers looks whether a call answers just this, and leaves the store with these terms.
func answers(t *testing.T, why string, s *term.Store, c call, want told, after []term.Term) {
	t.Helper()
	if got := c(); got != want {
		t.Errorf("%s: told is %+v, not %+v", why, got, want)
	}
	if left := samples.All(s); !slices.Equal(left, after) {
		same := alike(left, after)
		t.Errorf("%s: behind %d terms the store has %+v, not %+v", why, same, left[same:], after[same:])
	}
}

// alike is how many terms two lists have in common, from the first one on.
func alike(a, b []term.Term) int {
	same := 0
	for same < min(len(a), len(b)) && a[same] == b[same] {
		same++
	}
	return same
}

// refused looks whether a call is refused with this error, and puts these terms alone.
func refused(t *testing.T, why string, s *term.Store, c call, want api.Errno, stays ...term.Term) {
	t.Helper()
	answers(t, why, s, c, told{err: want}, append(samples.All(s), stays...))
}

// neither looks whether a state seals and opens nothing, of what the names are, with this error.
func neither(t *testing.T, why string, s *term.Store, y Sym, plain, name int, want api.Errno) {
	t.Helper()
	refused(t, why+": Seal", s, sealing(s, y, plain), want)
	refused(t, why+": Open", s, opening(s, y, name), want)
}

// begun is what Begin tells of a name that may be; it puts nothing but that.
func begun(t *testing.T, s *term.Store, name string) Sym {
	t.Helper()
	after, named := samples.With(samples.All(s), samples.Text(name))
	want := Sym{CK: named, H: named}
	answers(t, "what begins", s, beginning(s, name), told{state: want}, after)
	return want
}

// said is what Hash tells of terms that there are; it puts nothing but the one hash, and leaves all else of the state as it is.
func said(t *testing.T, s *term.Store, y Sym, x int) Sym {
	t.Helper()
	after, hash := samples.With(samples.All(s), samples.Hash(y.H, x))
	want := y
	want.H = hash
	answers(t, "with something said", s, saying(s, y, x), told{state: want}, after)
	return want
}

// keysOf are the keys of a chaining key and what is mixed in, behind terms that there are, with all that is put.
func keysOf(l []term.Term, chaining, in int) ([]term.Term, int, int) {
	l, hash := samples.With(l, samples.Hash(chaining, in))
	l, first := samples.With(l, samples.Key(hash, 1))
	l, second := samples.With(l, samples.Key(hash, 2))
	return l, first, second
}

// mixed is what Mix tells of terms that there are; it puts nothing but the hash and both keys, and leaves the state's H alone as it is.
func mixed(t *testing.T, s *term.Store, y Sym, x int) Sym {
	t.Helper()
	after, first, second := keysOf(samples.All(s), y.CK, x)
	want := Sym{CK: first, K: second, H: y.H}
	answers(t, "with something mixed in", s, mixing(s, y, x), told{state: want}, after)
	return want
}

// sealed is what Seal tells of a state that may seal, and terms that there are; it puts nothing but the Seal, and then the hash of it.
func sealed(t *testing.T, s *term.Store, y Sym, plain int) (Sym, int) {
	t.Helper()
	after, name := samples.With(samples.All(s), samples.Seal(y.K, y.N, y.H, plain))
	after, hash := samples.With(after, samples.Hash(y.H, name))
	want := Sym{CK: y.CK, K: y.K, H: hash, N: y.N + 1}
	answers(t, "with something sealed", s, sealing(s, y, plain), told{state: want, first: name}, after)
	return want, name
}

// opened is what Open tells of what was sealed in just this state; it puts nothing but the hash of it.
func opened(t *testing.T, s *term.Store, y Sym, name int) (Sym, int) {
	t.Helper()
	x, _ := s.Get(name)
	after, hash := samples.With(samples.All(s), samples.Hash(y.H, name))
	want := Sym{CK: y.CK, K: y.K, H: hash, N: y.N + 1}
	answers(t, "with something opened", s, opening(s, y, name), told{state: want, first: x.C}, after)
	return want, x.C
}

// split is what Split tells of a state whose CK is a term; it puts nothing but the Text of nothing, and then what Mix of it puts.
func split(t *testing.T, s *term.Store, y Sym) (int, int) {
	t.Helper()
	after, nothing := samples.With(samples.All(s), samples.Text(""))
	after, first, second := keysOf(after, y.CK, nothing)
	answers(t, "both keys", s, splitting(s, y), told{first: first, second: second}, after)
	return first, second
}

// is looks whether something is what is due.
func is[T comparable](t *testing.T, why string, got, want T) {
	t.Helper()
	if got != want {
		t.Errorf("%s is %+v, not %+v", why, got, want)
	}
}

func TestExampleOfTheChapter(t *testing.T) {
	s := samples.Store(6)
	y, err := Begin(s, "x")
	is(t, "Begin", told{state: y, err: err}, told{state: Sym{CK: 1, H: 1}})
	y, err = y.Mix(s, 1)
	is(t, "Mix", told{state: y, err: err}, told{state: Sym{CK: 3, K: 4, H: 1}})
	before := y
	y, name, err := y.Seal(s, 1)
	is(t, "Seal", told{state: y, first: name, err: err}, told{state: Sym{CK: 3, K: 4, H: 6, N: 1}, first: 5})
	opened, plain, err := before.Open(s, 5)
	is(t, "Open", told{state: opened, first: plain, err: err}, told{state: y, first: 1})
	want := []term.Term{samples.Text("x"), samples.Hash(1, 1), samples.Key(2, 1), samples.Key(2, 2), samples.Seal(4, 0, 1, 1), samples.Hash(1, 5)}
	if !slices.Equal(samples.All(s), want) {
		t.Errorf("the store has %+v, not %+v", samples.All(s), want)
	}
}

// P7.1

// TestBeginOfNames: of no bytes, of any bytes, and of as many as may be, where other terms are, and where none are.
func TestBeginOfNames(t *testing.T) {
	for _, name := range []string{"", "x", "ab", "sough", "\x00", "\xff\xfe", "\u00e9", samples.EachByte(), strings.Repeat("x", api.MaxText-1), strings.Repeat("\xff", api.MaxText)} {
		for _, there := range [][]term.Term{nil, samples.OfEachKind(), {samples.Nonce(1), samples.Text(name)}} {
			s := samples.Store(20, there...)
			y := begun(t, s, name)
			is(t, "what begins again", begun(t, s, name), y)
		}
	}
}

func TestBeginOfUnlikeNames(t *testing.T) {
	s := samples.Store(9)
	for i, name := range []string{"a", "", "A", "aa", "a\x00"} {
		is(t, "what begins", begun(t, s, name), Sym{CK: 1 + i, H: 1 + i})
	}
	is(t, "what began first", begun(t, s, "a"), Sym{CK: 1, H: 1})
}

// TestBeginRefusesNamesThatAreTooLong: whatever room there is.
func TestBeginRefusesNamesThatAreTooLong(t *testing.T) {
	for _, size := range []int{api.MaxText + 1, api.MaxText + 2, 2 * api.MaxText, 1 << 20} {
		for _, s := range append(samples.FullAndRoomy(), samples.Store(0), samples.Store(1)) {
			refused(t, "a name that is too long", s, beginning(s, strings.Repeat("x", size)), api.ErrArg)
		}
	}
}

func TestBeginWithoutRoom(t *testing.T) {
	s := samples.Store(0)
	refused(t, "a name where nothing may be", s, beginning(s, "x"), api.ErrBig)
	refused(t, "no name where nothing may be", s, beginning(s, ""), api.ErrBig)
	s = samples.Store(2, samples.Nonce(1), samples.Text("x"))
	refused(t, "a new name", s, beginning(s, "y"), api.ErrBig)
	is(t, "the name that is there", begun(t, s, "x"), Sym{CK: 2, H: 2})
}

// P7.2

// TestHashOfAllKinds: every term may be said, behind every hash.
func TestHashOfAllKinds(t *testing.T) {
	l := samples.OfEachKind()
	for hash := 1; hash <= len(l); hash++ {
		for x := 1; x <= len(l); x++ {
			s := samples.Store(20, l...)
			y := said(t, s, Sym{CK: 3, K: 9, H: hash, N: 5}, x)
			is(t, "with the same said", said(t, s, Sym{CK: 3, K: 9, H: hash, N: 5}, x), y)
		}
	}
}

// TestHashAsksForNothingElse: whatever CK, K and N are, they stay.
func TestHashAsksForNothingElse(t *testing.T) {
	s := samples.Store(20, samples.OfEachKind()...)
	for _, none := range samples.NoNames(s) {
		for _, n := range samples.Numbers() {
			said(t, s, Sym{CK: none, K: 2, H: 8, N: n}, 1)
			said(t, s, Sym{CK: 2, K: none, H: 8, N: n}, 1)
			said(t, s, Sym{CK: none, K: none, H: 8, N: n}, 1)
		}
	}
}

func TestHashRefusesWhatIsNoTerm(t *testing.T) {
	for _, s := range samples.FullAndRoomy() {
		for _, none := range samples.NoNames(s) {
			refused(t, "no term said", s, saying(s, Sym{CK: 1, K: 9, H: 8, N: 3}, none), api.ErrArg)
			refused(t, "a hash that is no term", s, saying(s, Sym{CK: 1, K: 9, H: none, N: 3}, 1), api.ErrArg)
			refused(t, "neither is a term", s, saying(s, Sym{CK: 1, K: 9, H: none, N: 3}, none), api.ErrArg)
		}
		refused(t, "the zero state", s, saying(s, Sym{}, 1), api.ErrArg)
	}
	s := samples.Store(0)
	for _, none := range samples.NoNames(s) {
		refused(t, "nothing in the store", s, saying(s, Sym{CK: none, K: none, H: none}, none), api.ErrArg)
	}
}

func TestHashWithoutRoom(t *testing.T) {
	s := samples.Store(3, samples.Nonce(1), samples.Nonce(2), samples.Hash(1, 2))
	refused(t, "a new hash", s, saying(s, Sym{CK: 1, H: 2}, 1), api.ErrBig)
	refused(t, "a new hash behind the one that is there", s, saying(s, Sym{CK: 1, H: 3}, 1), api.ErrBig)
	refused(t, "no term said", s, saying(s, Sym{CK: 1, H: 2}, 4), api.ErrArg)
	is(t, "the hash that is there", said(t, s, Sym{CK: 1, K: 2, H: 1, N: 7}, 2), Sym{CK: 1, K: 2, H: 3, N: 7})
}

// TestMixOfAllKinds: every term may be mixed in, and be the chaining key.
func TestMixOfAllKinds(t *testing.T) {
	l := samples.OfEachKind()
	for chaining := 1; chaining <= len(l); chaining++ {
		for x := 1; x <= len(l); x++ {
			s := samples.Store(20, l...)
			y := mixed(t, s, Sym{CK: chaining, K: 9, H: 8, N: 5}, x)
			is(t, "with the same mixed in", mixed(t, s, Sym{CK: chaining, K: 9, H: 8, N: 5}, x), y)
		}
	}
}

// TestMixAsksForNothingElse: whatever H is, it stays; whatever K and N are, K is the new key, and N 0.
func TestMixAsksForNothingElse(t *testing.T) {
	s := samples.Store(20, samples.OfEachKind()...)
	for _, none := range samples.NoNames(s) {
		for _, n := range samples.Numbers() {
			mixed(t, s, Sym{CK: 9, K: 2, H: none, N: n}, 1)
			mixed(t, s, Sym{CK: 9, K: none, H: 8, N: n}, 1)
			y := mixed(t, s, Sym{CK: 9, K: none, H: none, N: n}, 1)
			is(t, "with the same mixed in", y, Sym{CK: 13, K: 14, H: none})
		}
	}
}

func TestMixRefusesWhatIsNoTerm(t *testing.T) {
	for _, s := range samples.FullAndRoomy() {
		for _, none := range samples.NoNames(s) {
			refused(t, "no term mixed in", s, mixing(s, Sym{CK: 9, K: 2, H: 8, N: 3}, none), api.ErrArg)
			refused(t, "a chaining key that is no term", s, mixing(s, Sym{CK: none, K: 2, H: 8, N: 3}, 1), api.ErrArg)
			refused(t, "neither is a term", s, mixing(s, Sym{CK: none, K: 2, H: 8, N: 3}, none), api.ErrArg)
		}
		refused(t, "the zero state", s, mixing(s, Sym{}, 1), api.ErrArg)
	}
	s := samples.Store(0)
	for _, none := range samples.NoNames(s) {
		refused(t, "nothing in the store", s, mixing(s, Sym{CK: none, K: none, H: none}, none), api.ErrArg)
	}
}

// TestMixWithoutRoomForAll: what was put ahead of the want of room stays, and the state that is told is the zero one.
func TestMixWithoutRoomForAll(t *testing.T) {
	puts := []term.Term{samples.Hash(1, 2), samples.Key(3, 1), samples.Key(3, 2)}
	y := Sym{CK: 1, K: 2, H: 2, N: 3}
	for room := range puts {
		s := samples.Store(2+room, samples.Nonce(1), samples.Nonce(2))
		refused(t, "new keys", s, mixing(s, y, 2), api.ErrBig, puts[:room]...)
		refused(t, "new keys again", s, mixing(s, y, 2), api.ErrBig)
		refused(t, "no term mixed in", s, mixing(s, y, 3+room), api.ErrArg)
	}
	s := samples.Store(5, samples.Nonce(1), samples.Nonce(2))
	for range 2 {
		is(t, "the state with just room for all", mixed(t, s, y, 2), Sym{CK: 4, K: 5, H: 2})
	}
}

// P7.3

// TestSealAndOpenOfAllKinds: every term may be the key, the hash, and what is sealed; two or all three of them may be one.
func TestSealAndOpenOfAllKinds(t *testing.T) {
	l := samples.OfEachKind()
	for key := 1; key <= len(l); key++ {
		for hash := 1; hash <= len(l); hash++ {
			for plain := 1; plain <= len(l); plain++ {
				s := samples.Store(20, l...)
				y := Sym{CK: 3, K: key, H: hash, N: 5}
				to, name := sealed(t, s, y, plain)
				again, nameAgain := sealed(t, s, y, plain)
				is(t, "the same state", again, to)
				is(t, "what is sealed of the same", nameAgain, name)
				theirs, got := opened(t, s, y, name)
				is(t, "the state of who opened it", theirs, to)
				is(t, "what was sealed", got, plain)
			}
		}
	}
}

// TestSealAndOpenWithAllNumbers: from 0 up to the last but one, which leaves the last one.
func TestSealAndOpenWithAllNumbers(t *testing.T) {
	for _, n := range samples.Numbers() {
		if n == last {
			continue
		}
		s := samples.Store(20, samples.OfEachKind()...)
		y := Sym{CK: 3, K: 2, H: 8, N: n}
		to, name := sealed(t, s, y, 1)
		is(t, "the number", to.N, n+1)
		theirs, _ := opened(t, s, y, name)
		is(t, "the state of who opened it", theirs, to)
		if n == last-1 {
			neither(t, "the last number", s, to, 1, name, api.ErrState)
		}
	}
}

// TestSealAndOpenAskForNoChainingKey: whatever CK is, it stays.
func TestSealAndOpenAskForNoChainingKey(t *testing.T) {
	s := samples.Store(20, samples.OfEachKind()...)
	for _, chaining := range append(samples.NoNames(s), 1, 2, 9) {
		y := Sym{CK: chaining, K: 2, H: 8}
		_, name := sealed(t, s, y, 1)
		opened(t, s, y, name)
		_, got := opened(t, s, Sym{CK: 5, K: 2, H: 8}, name)
		is(t, "what another chaining key's state opens", got, 1)
	}
}

// TestSealAndOpenRefuseAStateWithoutKey: ahead of all else, whatever the others are, and whatever room there is.
func TestSealAndOpenRefuseAStateWithoutKey(t *testing.T) {
	for _, s := range samples.FullAndRoomy() {
		for _, n := range samples.Numbers() {
			neither(t, "no key", s, Sym{CK: 1, H: 8, N: n}, 1, term.Seal, api.ErrState)
			neither(t, "no key, and no hash", s, Sym{CK: 1, N: n}, 1, term.Seal, api.ErrState)
			neither(t, "no key, and no term", s, Sym{CK: 1, H: 8, N: n}, 0, 0, api.ErrState)
			neither(t, "no key, and no Seal", s, Sym{CK: 1, H: 8, N: n}, 1, 1, api.ErrState)
		}
		for _, none := range samples.NoNames(s) {
			neither(t, "no key, nor any term", s, Sym{CK: none, H: none}, none, none, api.ErrState)
		}
		neither(t, "the zero state", s, Sym{}, 1, term.Seal, api.ErrState)
	}
	s := samples.Store(9)
	y := begun(t, s, "x")
	neither(t, "what has just begun", s, y, 1, 1, api.ErrState)
	y = said(t, s, y, 1)
	neither(t, "what nothing is mixed in", s, y, 1, 1, api.ErrState)
	sealed(t, s, mixed(t, s, y, 1), 1)
}

// TestSealAndOpenRefuseTheLastNumber: ahead of all else, likewise.
func TestSealAndOpenRefuseTheLastNumber(t *testing.T) {
	for _, s := range samples.FullAndRoomy() {
		for key := 1; key <= s.Len(); key++ {
			neither(t, "the last number", s, Sym{CK: 1, K: key, H: 8, N: last}, 1, term.Seal, api.ErrState)
		}
		for _, none := range samples.NoNames(s) {
			neither(t, "the last number, and a key that is no term", s, Sym{CK: 1, K: none, H: 8, N: last}, 1, term.Seal, api.ErrState)
			neither(t, "the last number, and a hash that is no term", s, Sym{CK: 1, K: 9, H: none, N: last}, 1, term.Seal, api.ErrState)
			neither(t, "the last number, and no term", s, Sym{CK: 1, K: 9, H: 8, N: last}, none, none, api.ErrState)
			neither(t, "the last number, nor any term", s, Sym{CK: none, K: none, H: none, N: last}, none, none, api.ErrState)
		}
		neither(t, "the last number, and no Seal", s, Sym{CK: 1, K: 9, H: 8, N: last}, 1, 1, api.ErrState)
	}
	// What is sealed with the last number by other means this layer opens no more.
	s := samples.Store(9, samples.Nonce(1), samples.Seal(1, last, 1, 1), samples.Hash(1, 2))
	neither(t, "a Seal with the last number", s, Sym{CK: 1, K: 1, H: 1, N: last}, 1, 2, api.ErrState)
}

// TestSealUpToTheLastNumber: then nothing more is sealed, until something is mixed in.
func TestSealUpToTheLastNumber(t *testing.T) {
	s := samples.Store(50, samples.Nonce(1))
	mine := Sym{CK: 1, K: 1, H: 1, N: last - 3}
	theirs := mine
	for range 3 {
		var name int
		mine, name = sealed(t, s, mine, 1)
		theirs, _ = opened(t, s, theirs, name)
	}
	is(t, "the number", mine.N, last)
	is(t, "the state of who opened it", theirs, mine)
	neither(t, "the last number", s, mine, 1, 1, api.ErrState)
	mine, theirs = said(t, s, mine, 1), said(t, s, theirs, 1)
	neither(t, "the last number, with something said", s, mine, 1, 1, api.ErrState)
	mine, theirs = mixed(t, s, mine, 1), mixed(t, s, theirs, 1)
	is(t, "the number with something mixed in", mine.N, 0)
	mine, name := sealed(t, s, mine, 1)
	theirs, _ = opened(t, s, theirs, name)
	is(t, "the state of who opened it", theirs, mine)
}

// TestSealRefusesWhatIsNoTerm: ahead of any want of room, and with nothing put.
func TestSealRefusesWhatIsNoTerm(t *testing.T) {
	for _, s := range samples.FullAndRoomy() {
		for _, none := range samples.NoNames(s) {
			refused(t, "no term to be sealed", s, sealing(s, Sym{CK: 1, K: 9, H: 8, N: 3}, none), api.ErrArg)
			refused(t, "a hash that is no term", s, sealing(s, Sym{CK: 1, K: 9, H: none, N: 3}, 1), api.ErrArg)
			refused(t, "neither is a term", s, sealing(s, Sym{CK: 1, K: 9, H: none, N: 3}, none), api.ErrArg)
			if none == 0 {
				continue
			}
			refused(t, "a key that is no term", s, sealing(s, Sym{CK: 1, K: none, H: 8, N: 3}, 1), api.ErrArg)
			refused(t, "no term at all", s, sealing(s, Sym{CK: 1, K: none, H: none, N: last - 1}, none), api.ErrArg)
		}
	}
}

// TestOpenRefusesWhatIsNoTerm: ahead of what does not open, whatever the others are.
func TestOpenRefusesWhatIsNoTerm(t *testing.T) {
	for _, s := range samples.FullAndRoomy() {
		for _, none := range samples.NoNames(s) {
			refused(t, "no term to be opened", s, opening(s, Sym{CK: 1, K: 9, H: 8, N: 3}, none), api.ErrArg)
			refused(t, "a hash that is no term", s, opening(s, Sym{CK: 1, K: 9, H: none, N: 3}, term.Seal), api.ErrArg)
			refused(t, "a hash that is no term, and another number", s, opening(s, Sym{CK: 1, K: 9, H: none, N: 4}, term.Seal), api.ErrArg)
			refused(t, "a hash that is no term, and what is no Seal", s, opening(s, Sym{CK: 1, K: 9, H: none, N: 3}, 1), api.ErrArg)
			if none == 0 {
				continue
			}
			refused(t, "a key that is no term", s, opening(s, Sym{CK: 1, K: none, H: 8, N: 3}, term.Seal), api.ErrArg)
			refused(t, "a key that is no term, and what is no Seal", s, opening(s, Sym{CK: 1, K: none, H: 8, N: 3}, 1), api.ErrArg)
			refused(t, "no term at all", s, opening(s, Sym{CK: 1, K: none, H: none, N: last - 1}, none), api.ErrArg)
		}
	}
}

// TestOpenRefusesWhatIsNoSealOfThese: among all terms there is one Seal, that one key, number, and hash open; whatever room there is, nothing is put.
func TestOpenRefusesWhatIsNoSealOfThese(t *testing.T) {
	for _, s := range samples.FullAndRoomy() {
		there := s.Len()
		for key := 1; key <= there; key++ {
			for hash := 1; hash <= there; hash++ {
				for name := 1; name <= there; name++ {
					if key != 9 || hash != 8 || name != term.Seal {
						refused(t, "no Seal of these", s, opening(s, Sym{CK: 1, K: key, H: hash, N: 3}, name), api.ErrSeal)
					}
				}
			}
		}
		for _, n := range append(samples.Numbers(), 4) {
			if n != last {
				refused(t, "another number", s, opening(s, Sym{CK: 1, K: 9, H: 8, N: n}, term.Seal), api.ErrSeal)
			}
		}
	}
	s := samples.Store(20, samples.OfEachKind()...)
	_, plain := opened(t, s, Sym{CK: 1, K: 9, H: 8, N: 3}, term.Seal)
	is(t, "what was sealed", plain, 1)
}

// TestSealWithoutRoomForAll: a Seal that was put ahead of the want of room stays, though the call tells none of it, and the state that is told is the zero one.
func TestSealWithoutRoomForAll(t *testing.T) {
	y := Sym{CK: 1, K: 1, H: 2, N: 7}
	puts := []term.Term{samples.Seal(1, 7, 2, 1), samples.Hash(2, 3)}
	for room := range puts {
		s := samples.Store(2+room, samples.Nonce(1), samples.Nonce(2))
		refused(t, "something new", s, sealing(s, y, 1), api.ErrBig, puts[:room]...)
		refused(t, "the same again", s, sealing(s, y, 1), api.ErrBig)
		refused(t, "something else", s, sealing(s, y, 2), api.ErrBig)
		refused(t, "no term to be sealed", s, sealing(s, y, 3+room), api.ErrArg)
	}
	s := samples.Store(4, samples.Nonce(1), samples.Nonce(2))
	for range 2 {
		to, name := sealed(t, s, y, 1)
		is(t, "the state with just room for both", to, Sym{CK: 1, K: 1, H: 4, N: 8})
		is(t, "what is sealed", name, 3)
	}
	s = samples.Store(4, samples.Nonce(1), samples.Nonce(2), puts[0])
	to, _ := sealed(t, s, y, 1)
	is(t, "the state where the Seal was there", to, Sym{CK: 1, K: 1, H: 4, N: 8})
}

// TestOpenWithoutRoom: what was sealed is not told, where there is no room for the hash; where the hash is there, Open needs none.
func TestOpenWithoutRoom(t *testing.T) {
	y := Sym{CK: 1, K: 1, H: 2, N: 7}
	seal, hash := samples.Seal(1, 7, 2, 1), samples.Hash(2, 3)
	s := samples.Store(3, samples.Nonce(1), samples.Nonce(2), seal)
	for range 2 {
		refused(t, "what has no hash yet", s, opening(s, y, 3), api.ErrBig)
	}
	refused(t, "what is no Seal", s, opening(s, y, 2), api.ErrSeal)
	refused(t, "no term", s, opening(s, y, 4), api.ErrArg)
	for _, there := range [][]term.Term{{seal}, {seal, hash}} {
		s = samples.Store(4, append([]term.Term{samples.Nonce(1), samples.Nonce(2)}, there...)...)
		to, plain := opened(t, s, y, 3)
		is(t, "the state with just room for the hash", to, Sym{CK: 1, K: 1, H: 4, N: 8})
		is(t, "what was sealed", plain, 1)
	}
}

// TestOpenRefusesLikeOnes: none of what was sealed in another state is taken for what was sealed in this one.
func TestOpenRefusesLikeOnes(t *testing.T) {
	s := samples.Store(50, samples.Nonce(1), samples.Nonce(2), samples.Nonce(3))
	y := Sym{CK: 1, K: 1, H: 2, N: 7}
	to, name := sealed(t, s, y, 3)
	for _, x := range []struct {
		why   string
		other Sym
	}{
		{"another key", Sym{CK: 1, K: 3, H: 2, N: 7}},
		{"another hash", Sym{CK: 1, K: 1, H: 3, N: 7}},
		{"the number behind it", Sym{CK: 1, K: 1, H: 2, N: 8}},
		{"the number ahead of it", Sym{CK: 1, K: 1, H: 2, N: 6}},
		{"key and hash the wrong way round", Sym{CK: 1, K: 2, H: 1, N: 7}},
		{"the state that it left", to},
		{"what is sealed as key", Sym{CK: 1, K: 3, H: 2, N: 7}},
		{"the Seal itself as key", Sym{CK: 1, K: name, H: 2, N: 7}},
		{"the Seal itself as hash", Sym{CK: 1, K: 1, H: name, N: 7}},
	} {
		refused(t, x.why, s, opening(s, x.other, name), api.ErrSeal)
		_, otherName := sealed(t, s, x.other, 3)
		refused(t, "sealed with "+x.why, s, opening(s, y, otherName), api.ErrSeal)
	}
	refused(t, "what is sealed itself", s, opening(s, y, 3), api.ErrSeal)
	opened(t, s, y, name)
}

// P7.4

// TestSplitOfAllKinds: every term may be the chaining key, be the Text of nothing there or not; it may be that itself.
func TestSplitOfAllKinds(t *testing.T) {
	l := append(samples.OfEachKind(), samples.Text(""))
	for there := len(l) - 1; there <= len(l); there++ {
		for chaining := 1; chaining <= there; chaining++ {
			s := samples.Store(20, l[:there]...)
			first, second := split(t, s, Sym{CK: chaining, K: 9, H: 8, N: 5})
			firstAgain, secondAgain := split(t, s, Sym{CK: chaining, K: 9, H: 8, N: 5})
			is(t, "the same first key", firstAgain, first)
			is(t, "the same second key", secondAgain, second)
		}
	}
}

// TestSplitAsksForNothingElse: whatever K, H and N are, the keys are those of CK.
func TestSplitAsksForNothingElse(t *testing.T) {
	s := samples.Store(20, samples.OfEachKind()...)
	for _, none := range samples.NoNames(s) {
		for _, n := range samples.Numbers() {
			for _, y := range []Sym{{CK: 9, K: 2, H: none, N: n}, {CK: 9, K: none, H: 8, N: n}, {CK: 9, K: none, H: none, N: n}} {
				first, second := split(t, s, y)
				is(t, "the first key", first, 14)
				is(t, "the second key", second, 15)
			}
		}
	}
}

// TestSplitIsMixOfNothing: its keys are what CK and K would be.
func TestSplitIsMixOfNothing(t *testing.T) {
	s := samples.Store(20, samples.Nonce(1), samples.Text(""))
	y := mixed(t, s, Sym{CK: 1, H: 1}, 1)
	first, second := split(t, s, y)
	is(t, "with nothing mixed in it", mixed(t, s, y, 2), Sym{CK: first, K: second, H: 1})
}

// TestSplitRefusesAChainingKeyThatIsNoTerm: the Text of nothing that was put ahead stays, and the want of room for it goes first.
func TestSplitRefusesAChainingKeyThatIsNoTerm(t *testing.T) {
	for _, none := range []int{0, -1, -2, math.MinInt, 4, 5, api.MaxTerms + 1, math.MaxInt} {
		y := Sym{CK: none, K: 1, H: 2, N: 3}
		for _, room := range []int{1, 2, 9} {
			s := samples.Store(2+room, samples.Nonce(1), samples.Nonce(2))
			refused(t, "no term, and nothing", s, splitting(s, y), api.ErrArg, samples.Text(""))
			refused(t, "no term again", s, splitting(s, y), api.ErrArg)
		}
		s := samples.Store(2, samples.Nonce(1), samples.Nonce(2))
		refused(t, "no term, and no room for nothing", s, splitting(s, y), api.ErrBig)
		s = samples.Store(3, samples.Nonce(1), samples.Nonce(2), samples.Text(""))
		refused(t, "no term, and no room where nothing is there", s, splitting(s, y), api.ErrArg)
	}
	s := samples.Store(9)
	refused(t, "the zero state", s, splitting(s, Sym{}), api.ErrArg, samples.Text(""))
}

// TestSplitOfTheNameThatNothingWouldHave: what is no term yet is one behind the Text of nothing, and so may be the chaining key.
func TestSplitOfTheNameThatNothingWouldHave(t *testing.T) {
	s := samples.Store(9, samples.Nonce(1))
	first, second := split(t, s, Sym{CK: 2})
	is(t, "the first key", first, 4)
	is(t, "the second key", second, 5)
}

// TestSplitWithoutRoomForAll: what was put ahead of the want of room stays, though the call tells neither key.
func TestSplitWithoutRoomForAll(t *testing.T) {
	puts := []term.Term{samples.Text(""), samples.Hash(1, 2), samples.Key(3, 1), samples.Key(3, 2)}
	y := Sym{CK: 1, K: 1, H: 1, N: 3}
	for there := range 2 {
		for room := there; room < len(puts); room++ {
			s := samples.Store(1+room, append([]term.Term{samples.Nonce(1)}, puts[:there]...)...)
			refused(t, "new keys", s, splitting(s, y), api.ErrBig, puts[there:room]...)
			refused(t, "new keys again", s, splitting(s, y), api.ErrBig)
		}
		s := samples.Store(5, append([]term.Term{samples.Nonce(1)}, puts[:there]...)...)
		for range 2 {
			first, second := split(t, s, y)
			is(t, "the first key", first, 4)
			is(t, "the second key", second, 5)
		}
	}
}

// P7.5

// TestTwoSidesThatSayTheSame: one of them seals and the other one opens, either way round, many steps long; they have the same all along, and split to the same keys.
func TestTwoSidesThatSayTheSame(t *testing.T) {
	for seed := range int64(12) {
		r := rand.New(rand.NewSource(seed))
		s := samples.Store(2000, samples.OfEachKind()...)
		sides := [2]Sym{begun(t, s, "sough"), begun(t, s, "sough")}
		for range 150 {
			x, from := 1+r.Intn(s.Len()), r.Intn(2)
			switch kind := r.Intn(4); {
			case kind == 0:
				sides[from], sides[1-from] = said(t, s, sides[from], x), said(t, s, sides[1-from], x)
			case kind == 1 || sides[from].K == 0:
				sides[from], sides[1-from] = mixed(t, s, sides[from], x), mixed(t, s, sides[1-from], x)
			default:
				var name, plain int
				sides[from], name = sealed(t, s, sides[from], x)
				sides[1-from], plain = opened(t, s, sides[1-from], name)
				is(t, "what was sealed", plain, x)
			}
			is(t, "the other side's state", sides[1], sides[0])
		}
		first, second := split(t, s, sides[0])
		theirFirst, theirSecond := split(t, s, sides[1])
		is(t, "the other side's first key", theirFirst, first)
		is(t, "the other side's second key", theirSecond, second)
	}
}

// act is one thing that a side does in a handshake: h says a term, m mixes it in, s seals it.
type act struct {
	kind byte
	x    int
}

// done is a state behind these acts, done one by one. What the other side sealed stands as a Seal that is opened, for the same.
func done(t *testing.T, s *term.Store, y Sym, acts ...act) Sym {
	t.Helper()
	for _, a := range acts {
		switch a.kind {
		case 'h':
			y = said(t, s, y, a.x)
		case 'm':
			y = mixed(t, s, y, a.x)
		case 's':
			before := y
			var name int
			y, name = sealed(t, s, before, a.x)
			theirs, _ := opened(t, s, before, name)
			is(t, "the state of who opened it", theirs, y)
		}
	}
	return y
}

// handshake is what both sides do, if neither is told something else.
func handshake() []act {
	return []act{{'h', 1}, {'m', 2}, {'h', 3}, {'s', 1}, {'m', 4}, {'s', 2}, {'s', 2}, {'h', 2}, {'m', 1}, {'s', 3}}
}

// apart looks whether two states are unlike, and neither opens what the other one seals, now, and with more of the same said and mixed in on both sides.
func apart(t *testing.T, why string, s *term.Store, mine, theirs Sym) {
	t.Helper()
	for _, more := range [][]act{nil, {{'h', 1}}, {{'m', 1}}, {{'m', 2}, {'h', 2}}} {
		mine, theirs := done(t, s, mine, more...), done(t, s, theirs, more...)
		if mine == theirs {
			t.Errorf("%s: both have %+v", why, mine)
		}
		_, myName := sealed(t, s, mine, 5)
		_, theirName := sealed(t, s, theirs, 5)
		refused(t, why+": what the one side sealed", s, opening(s, theirs, myName), api.ErrSeal)
		refused(t, why+": what the other side sealed", s, opening(s, mine, theirName), api.ErrSeal)
	}
}

// fiveNonces is a store with the terms 1 to 5, and room for handshakes.
func fiveNonces() *term.Store {
	s := samples.Store(2000)
	for n := range uint64(5) {
		samples.Put(s, samples.Nonce(n))
	}
	return s
}

// TestTwoSidesThatPart: by one act of which one side knows another one, or none, or has one more, or has two the other way round.
func TestTwoSidesThatPart(t *testing.T) {
	all := handshake()
	for place, a := range all {
		s := fiveNonces()
		// With a key from the first on, either side can seal all along, whatever it knows not.
		begin := mixed(t, s, begun(t, s, "sough"), 1)
		mine := done(t, s, begin, all...)
		for _, x := range []struct {
			why   string
			their []act
		}{
			{"another term", []act{{a.kind, 5}}},
			{"nothing", nil},
			{"it twice", []act{a, a}},
			{"one thing more said", []act{a, {'h', 5}}},
			{"one thing more mixed in", []act{a, {'m', 5}}},
		} {
			theirs := done(t, s, begin, slices.Concat(all[:place], x.their, all[place+1:])...)
			apart(t, x.why, s, mine, theirs)
		}
		for _, kind := range []byte("hms") {
			if kind != a.kind {
				theirs := done(t, s, begin, slices.Concat(all[:place], []act{{kind, a.x}}, all[place+1:])...)
				apart(t, "something else done with it", s, mine, theirs)
			}
		}
	}
}

// TestTwoSidesThatPartAtOnce: each act alone, just ahead of what is sealed.
func TestTwoSidesThatPartAtOnce(t *testing.T) {
	s := fiveNonces()
	y := mixed(t, s, begun(t, s, "sough"), 1)
	for _, kind := range []byte("hms") {
		mine := done(t, s, y, act{kind, 2})
		apart(t, "nothing", s, mine, y)
		apart(t, "another term", s, mine, done(t, s, y, act{kind, 3}))
		apart(t, "a term more", s, mine, done(t, s, mine, act{kind, 2}))
	}
	apart(t, "two things said the other way round", s, done(t, s, y, act{'h', 2}, act{'h', 3}), done(t, s, y, act{'h', 3}, act{'h', 2}))
	apart(t, "two things mixed in the other way round", s, done(t, s, y, act{'m', 2}, act{'m', 3}), done(t, s, y, act{'m', 3}, act{'m', 2}))
	apart(t, "said, not mixed in", s, done(t, s, y, act{'h', 2}), done(t, s, y, act{'m', 2}))
}

// TestSidesOfUnlikeNamesPart: whatever is done then.
func TestSidesOfUnlikeNamesPart(t *testing.T) {
	s := fiveNonces()
	for _, name := range []string{"", "soug", "sough\x00", "Sough"} {
		apart(t, "another name", s, done(t, s, begun(t, s, "sough"), handshake()...), done(t, s, begun(t, s, name), handshake()...))
	}
}

// TestSidesThatMixUnlikeSplitUnlike: by what is said alone they split to the same, as no key comes of it.
func TestSidesThatMixUnlikeSplitUnlike(t *testing.T) {
	s := fiveNonces()
	y := mixed(t, s, begun(t, s, "sough"), 1)
	first, second := split(t, s, y)
	if otherFirst, otherSecond := split(t, s, mixed(t, s, y, 2)); otherFirst == first || otherSecond == second || first == second {
		t.Errorf("the keys are %d, %d, and %d, %d", first, second, otherFirst, otherSecond)
	}
	saidFirst, saidSecond := split(t, s, said(t, s, y, 2))
	is(t, "the first key with something said", saidFirst, first)
	is(t, "the second key with something said", saidSecond, second)
}

// TestStatesGoOnFromWhereTheyWere: what comes of a state changes neither it, nor what else comes of it.
func TestStatesGoOnFromWhereTheyWere(t *testing.T) {
	s := samples.Store(50, samples.Nonce(1), samples.Nonce(2))
	y := mixed(t, s, begun(t, s, "x"), 1)
	was := y
	to, name := sealed(t, s, y, 2)
	for range 2 {
		said(t, s, y, 2)
		mixed(t, s, y, 2)
		sealed(t, s, y, 1)
		opened(t, s, y, name)
		split(t, s, y)
		refused(t, "what is no Seal", s, opening(s, y, 1), api.ErrSeal)
		is(t, "the state", y, was)
	}
	again, nameAgain := sealed(t, s, y, 2)
	is(t, "what comes of it", again, to)
	is(t, "what is sealed of it", nameAgain, name)
}

// TestCopiesOfAStoreGoOnTheirOwn: what is said in one of them the other one has not (R7).
func TestCopiesOfAStoreGoOnTheirOwn(t *testing.T) {
	s := samples.Store(20, samples.Nonce(1))
	c := *s
	y := mixed(t, s, begun(t, s, "x"), 1)
	refused(t, "a state of the original alone", &c, mixing(&c, y, 1), api.ErrArg)
	refused(t, "a key of the original alone", &c, sealing(&c, y, 1), api.ErrArg)
	is(t, "the copy's state", mixed(t, &c, begun(t, &c, "y"), 1), y)
	_, name := sealed(t, &c, y, 1)
	refused(t, "a Seal of the copy alone", s, opening(s, y, name), api.ErrArg)
	_, plain := opened(t, &c, y, name)
	is(t, "what was sealed in the copy", plain, 1)
}
