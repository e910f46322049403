package kem

import (
	"math/rand"
	"slices"
	"testing"

	"sough/api"
	"sough/samples"
	"sough/term"
)

// call is one of the package's calls: its error, and as many names as it tells.
type call func() ([]int, api.Errno)

func public(s *term.Store, secret int) call {
	return func() ([]int, api.Errno) {
		name, err := Public(s, secret)
		return []int{name}, err
	}
}

func wrap(s *term.Store, public, drawn int) call {
	return func() ([]int, api.Errno) {
		box, in, err := Wrap(s, public, drawn)
		return []int{box, in}, err
	}
}

func open(s *term.Store, secret, box int) call {
	return func() ([]int, api.Errno) {
		name, err := Open(s, secret, box)
		return []int{name}, err
	}
}

// told looks whether a call tells these terms' names, and puts nothing but those that are not there yet, in this order.
func told(t *testing.T, why string, s *term.Store, c call, l ...term.Term) []int {
	t.Helper()
	after := samples.All(s)
	var want []int
	for _, x := range l {
		var name int
		after, name = samples.With(after, x)
		want = append(want, name)
	}
	names, err := c()
	if !slices.Equal(names, want) || err != api.OK {
		t.Errorf("%s: told is %v, %d, not %v of %+v", why, names, err, want, l)
	}
	if got := samples.All(s); !slices.Equal(got, after) {
		t.Errorf("%s: the store has %+v, not %+v", why, got, after)
	}
	return names
}

// refused looks whether a call is refused with this error, and puts these terms alone.
func refused(t *testing.T, why string, s *term.Store, c call, want api.Errno, stays ...term.Term) {
	t.Helper()
	after := append(samples.All(s), stays...)
	names, err := c()
	if slices.Max(names) != 0 || slices.Min(names) != 0 || err != want {
		t.Errorf("%s: told is %v, %d, not zeros, %d", why, names, err, want)
	}
	if got := samples.All(s); !slices.Equal(got, after) {
		t.Errorf("%s: the store has %+v, not %+v", why, got, after)
	}
}

// publicOf is the wrapping key of a secret that there is.
func publicOf(t *testing.T, s *term.Store, secret int) int {
	t.Helper()
	return told(t, "a wrapping key", s, public(s, secret), samples.Kpub(secret))[0]
}

// wrapped is what is wrapped for a secret by its wrapping key, with what was drawn, and the secret in it.
func wrapped(t *testing.T, s *term.Store, public, drawn, secret int) (int, int) {
	t.Helper()
	l := told(t, "a box", s, wrap(s, public, drawn), samples.Box(secret, drawn), samples.Kem(secret, drawn))
	return l[0], l[1]
}

// opened is the secret in a box of this secret.
func opened(t *testing.T, s *term.Store, secret, box, drawn int) int {
	t.Helper()
	return told(t, "what is in a box", s, open(s, secret, box), samples.Kem(secret, drawn))[0]
}

func TestExampleOfTheChapter(t *testing.T) {
	s := samples.Store(5, samples.Nonce(1), samples.Nonce(2))
	if name, err := Public(s, 1); name != 3 || err != api.OK {
		t.Errorf("Public = %d, %d", name, err)
	}
	if box, in, err := Wrap(s, 3, 2); box != 4 || in != 5 || err != api.OK {
		t.Errorf("Wrap = %d, %d, %d", box, in, err)
	}
	if name, err := Open(s, 1, 4); name != 5 || err != api.OK {
		t.Errorf("Open = %d, %d", name, err)
	}
	if name, err := Open(s, 2, 4); name != 0 || err != api.ErrBox {
		t.Errorf("Open by another secret = %d, %d", name, err)
	}
	if want := []term.Term{samples.Nonce(1), samples.Nonce(2), samples.Kpub(1), samples.Box(1, 2), samples.Kem(1, 2)}; !slices.Equal(samples.All(s), want) {
		t.Errorf("the store has %+v, not %+v", samples.All(s), want)
	}
}

// P4.1

func TestPublicOfEachKind(t *testing.T) {
	l := samples.OfEachKind()
	for secret := 1; secret <= len(l); secret++ {
		s := samples.Store(20, l...)
		first := publicOf(t, s, secret)
		if again := publicOf(t, s, secret); again != first {
			t.Errorf("the wrapping key of %d is %d, and then %d", secret, first, again)
		}
	}
}

func TestPublicOfAWrappingKey(t *testing.T) {
	s := samples.Store(9, samples.Nonce(1))
	for secret := 1; secret < 9; secret++ {
		if name := publicOf(t, s, secret); name != secret+1 {
			t.Errorf("the wrapping key of %d is %d", secret, name)
		}
	}
}

func TestPublicRefusesWhatIsNoTerm(t *testing.T) {
	for _, most := range []int{len(samples.OfEachKind()), 20} {
		s := samples.Store(most, samples.OfEachKind()...)
		for _, secret := range samples.NoNames(s) {
			refused(t, "a secret that is no term", s, public(s, secret), api.ErrArg)
		}
	}
	s := samples.Store(0)
	for _, secret := range samples.NoNames(s) {
		refused(t, "a secret of no term at all", s, public(s, secret), api.ErrArg)
	}
}

func TestPublicWithoutRoom(t *testing.T) {
	s := samples.Store(3, samples.Nonce(1), samples.Nonce(2), samples.Kpub(1))
	refused(t, "a new wrapping key", s, public(s, 2), api.ErrBig)
	refused(t, "a new wrapping key of a wrapping key", s, public(s, 3), api.ErrBig)
	refused(t, "a secret that is no term", s, public(s, 4), api.ErrArg)
	if name := publicOf(t, s, 1); name != 3 {
		t.Errorf("the wrapping key that is there is %d", name)
	}
}

// P4.2

// TestWrapOfAllKinds: every term is a secret that has a wrapping key, and every one may be drawn, the secret itself too.
func TestWrapOfAllKinds(t *testing.T) {
	l := samples.OfEachKind()
	for secret := 1; secret <= len(l); secret++ {
		for drawn := 1; drawn <= len(l); drawn++ {
			s := samples.Store(20, l...)
			pub := publicOf(t, s, secret)
			b, in := wrapped(t, s, pub, drawn, secret)
			if b2, in2 := wrapped(t, s, pub, drawn, secret); b2 != b || in2 != in {
				t.Errorf("of %d and %d told is %d, %d, and then %d, %d", secret, drawn, b, in, b2, in2)
			}
		}
	}
}

func TestWrapTellsTheBoxFirst(t *testing.T) {
	s := samples.Store(9, samples.Nonce(1), samples.Nonce(2), samples.Kpub(1))
	b, in, err := Wrap(s, 3, 2)
	if x, _ := s.Get(b); x != samples.Box(1, 2) || b != 4 {
		t.Errorf("the first name is %d, of %+v", b, x)
	}
	if x, _ := s.Get(in); x != samples.Kem(1, 2) || in != 5 {
		t.Errorf("the second name is %d, of %+v", in, x)
	}
	if err != api.OK {
		t.Errorf("the error is %d", err)
	}
}

// TestWrapOfWhatIsAtHand: the wrapping key itself may be drawn, and so may a box, and what is in it.
func TestWrapOfWhatIsAtHand(t *testing.T) {
	s := samples.Store(30, samples.Nonce(1))
	pub := publicOf(t, s, 1)
	b, in := wrapped(t, s, pub, 1, 1)
	for _, drawn := range []int{pub, b, in} {
		wrapped(t, s, pub, drawn, 1)
		wrapped(t, s, publicOf(t, s, drawn), drawn, drawn)
		wrapped(t, s, publicOf(t, s, drawn), 1, drawn)
	}
}

func TestWrapWhereOneIsThere(t *testing.T) {
	for _, x := range []struct {
		why     string
		there   []term.Term
		box, in int
	}{
		{"neither", nil, 4, 5},
		{"the Box", []term.Term{samples.Box(1, 2)}, 4, 5},
		{"the Kem", []term.Term{samples.Kem(1, 2)}, 5, 4},
		{"both", []term.Term{samples.Box(1, 2), samples.Kem(1, 2)}, 4, 5},
		{"both, the Kem first", []term.Term{samples.Kem(1, 2), samples.Box(1, 2)}, 5, 4},
		{"those of other terms", []term.Term{samples.Box(2, 1), samples.Kem(2, 1)}, 6, 7},
	} {
		s := samples.Store(9, append([]term.Term{samples.Nonce(1), samples.Nonce(2), samples.Kpub(1)}, x.there...)...)
		if b, in := wrapped(t, s, 3, 2, 1); b != x.box || in != x.in {
			t.Errorf("where %s stood: %d, %d, not %d, %d", x.why, b, in, x.box, x.in)
		}
	}
}

func TestWrapRefusesWhatIsNoWrappingKey(t *testing.T) {
	for _, most := range []int{len(samples.OfEachKind()), 20} {
		s := samples.Store(most, samples.OfEachKind()...)
		for drawn := 1; drawn <= s.Len(); drawn++ {
			for pub := 1; pub <= s.Len(); pub++ {
				if pub != term.Kpub {
					refused(t, "a term, but no Kpub", s, wrap(s, pub, drawn), api.ErrArg)
				}
			}
			for _, pub := range samples.NoNames(s) {
				refused(t, "a wrapping key that is no term", s, wrap(s, pub, drawn), api.ErrArg)
			}
		}
	}
}

// TestWrapRefusesWhatIsNoTerm: whatever the wrapping key is, and whatever room there is.
func TestWrapRefusesWhatIsNoTerm(t *testing.T) {
	for _, most := range []int{len(samples.OfEachKind()), 20} {
		s := samples.Store(most, samples.OfEachKind()...)
		for _, drawn := range samples.NoNames(s) {
			for _, pub := range append(samples.NoNames(s), term.Nonce, term.Pub, term.Kpub, term.Box) {
				refused(t, "what was drawn is no term", s, wrap(s, pub, drawn), api.ErrArg)
			}
		}
	}
	s := samples.Store(0)
	for _, name := range samples.NoNames(s) {
		refused(t, "no term at all", s, wrap(s, name, name), api.ErrArg)
	}
}

// TestWrapAheadOfItsTerms: names that are to come are none yet.
func TestWrapAheadOfItsTerms(t *testing.T) {
	s := samples.Store(9, samples.Nonce(1))
	refused(t, "a wrapping key that is to come", s, wrap(s, 2, 1), api.ErrArg)
	pub := publicOf(t, s, 1)
	refused(t, "what is to be drawn", s, wrap(s, pub, 3), api.ErrArg)
	wrapped(t, s, pub, samples.Put(s, samples.Nonce(2)), 1)
}

func TestWrapWithoutRoom(t *testing.T) {
	s := samples.Store(3, samples.Nonce(1), samples.Nonce(2), samples.Kpub(1))
	for range 2 {
		refused(t, "a new Box and a new Kem", s, wrap(s, 3, 2), api.ErrBig)
	}
	refused(t, "a wrapping key that is none", s, wrap(s, 2, 2), api.ErrArg)
	refused(t, "what was drawn is no term", s, wrap(s, 3, 4), api.ErrArg)
	s = samples.Store(4, samples.Nonce(1), samples.Nonce(2), samples.Kpub(1), samples.Kem(1, 2))
	refused(t, "a new Box of a Kem that is there", s, wrap(s, 3, 2), api.ErrBig)
	s = samples.Store(4, samples.Nonce(1), samples.Nonce(2), samples.Kpub(1), samples.Box(1, 2))
	refused(t, "a new Kem of a Box that is there", s, wrap(s, 3, 2), api.ErrBig)
	s = samples.Store(5, samples.Nonce(1), samples.Nonce(2), samples.Kpub(1), samples.Kem(1, 2), samples.Box(1, 2))
	if b, in := wrapped(t, s, 3, 2, 1); b != 5 || in != 4 {
		t.Errorf("those that are there are %d, %d", b, in)
	}
}

// TestWrapWithRoomForTheBoxAlone: it stays, though the call tells none of it.
func TestWrapWithRoomForTheBoxAlone(t *testing.T) {
	s := samples.Store(4, samples.Nonce(1), samples.Nonce(2), samples.Kpub(1))
	refused(t, "a new Kem behind a new Box", s, wrap(s, 3, 2), api.ErrBig, samples.Box(1, 2))
	refused(t, "a new Kem of the Box that stayed", s, wrap(s, 3, 2), api.ErrBig)
	refused(t, "to open the Box that stayed", s, open(s, 1, 4), api.ErrBig)
	refused(t, "to open the Box that stayed by another secret", s, open(s, 2, 4), api.ErrBox)
	if name := samples.Put(s, samples.Box(1, 2)); name != 4 {
		t.Errorf("the Box that stayed is %d", name)
	}
}

func TestWrapWithRoomForOneWhereTheOtherOneIs(t *testing.T) {
	for _, there := range []term.Term{samples.Box(1, 2), samples.Kem(1, 2)} {
		s := samples.Store(5, samples.Nonce(1), samples.Nonce(2), samples.Kpub(1), there)
		wrapped(t, s, 3, 2, 1)
	}
}

// P4.3

func TestOpenOfAllKinds(t *testing.T) {
	l := samples.OfEachKind()
	for secret := 1; secret <= len(l); secret++ {
		for drawn := 1; drawn <= len(l); drawn++ {
			s := samples.Store(20, l...)
			b := samples.Put(s, samples.Box(secret, drawn))
			first := opened(t, s, secret, b, drawn)
			if again := opened(t, s, secret, b, drawn); again != first {
				t.Errorf("in the box of %d and %d is %d, and then %d", secret, drawn, first, again)
			}
		}
	}
}

// TestOpenAsksForNoWrappingKey: a box is opened, and the secret in it put, where neither key nor Kem has been told.
func TestOpenAsksForNoWrappingKey(t *testing.T) {
	s := samples.Store(4, samples.Nonce(1), samples.Nonce(2), samples.Box(1, 2))
	if name := opened(t, s, 1, 3, 2); name != 4 {
		t.Errorf("the secret is %d", name)
	}
}

func TestOpenRefusesWhatIsNoTerm(t *testing.T) {
	for _, most := range []int{len(samples.OfEachKind()), 20} {
		s := samples.Store(most, samples.OfEachKind()...)
		for _, none := range samples.NoNames(s) {
			for name := 1; name <= s.Len(); name++ {
				refused(t, "a secret that is no term", s, open(s, none, name), api.ErrArg)
				refused(t, "a box that is no term", s, open(s, name, none), api.ErrArg)
			}
			for _, other := range samples.NoNames(s) {
				refused(t, "neither is a term", s, open(s, none, other), api.ErrArg)
			}
		}
	}
	s := samples.Store(0)
	for _, name := range samples.NoNames(s) {
		refused(t, "no term at all", s, open(s, name, name), api.ErrArg)
	}
}

// TestOpenRefusesWhatIsNoBoxOfTheSecret: among all terms there are the Kem, the Kpub and others with that secret as their first part, and one Box; whatever room there is.
func TestOpenRefusesWhatIsNoBoxOfTheSecret(t *testing.T) {
	for _, most := range []int{len(samples.OfEachKind()), 20} {
		s := samples.Store(most, samples.OfEachKind()...)
		for secret := 1; secret <= s.Len(); secret++ {
			for b := 1; b <= s.Len(); b++ {
				if secret != 2 || b != term.Box {
					refused(t, "no Box of the secret", s, open(s, secret, b), api.ErrBox)
				}
			}
		}
		opened(t, s, 2, term.Box, 1)
	}
}

func TestOpenRefusesABoxOfAnotherSecret(t *testing.T) {
	s := samples.Store(30, samples.Nonce(1), samples.Nonce(2), samples.Nonce(3))
	pub := publicOf(t, s, 1)
	b, in := wrapped(t, s, pub, 2, 1)
	own, _ := wrapped(t, s, publicOf(t, s, 2), 2, 2)
	refused(t, "what was drawn", s, open(s, 2, b), api.ErrBox)
	refused(t, "a secret of its own", s, open(s, 3, b), api.ErrBox)
	refused(t, "the wrapping key", s, open(s, pub, b), api.ErrBox)
	refused(t, "the box itself", s, open(s, b, b), api.ErrBox)
	refused(t, "the secret in it", s, open(s, in, b), api.ErrBox)
	refused(t, "the secret, of another one's box with the same drawn", s, open(s, 1, own), api.ErrBox)
	refused(t, "both the wrong way round", s, open(s, b, 1), api.ErrBox)
}

func TestOpenOfOneTermAsSecretAndDrawn(t *testing.T) {
	s := samples.Store(9, samples.Nonce(1), samples.Nonce(2))
	b, in := wrapped(t, s, publicOf(t, s, 2), 2, 2)
	if name := opened(t, s, 2, b, 2); name != in {
		t.Errorf("the secret is %d, not %d", name, in)
	}
	refused(t, "another secret", s, open(s, 1, b), api.ErrBox)
}

func TestOpenWithoutRoom(t *testing.T) {
	s := samples.Store(5, samples.Nonce(1), samples.Nonce(2), samples.Box(1, 2), samples.Box(2, 1), samples.Kem(2, 1))
	for range 2 {
		refused(t, "a new Kem", s, open(s, 1, 3), api.ErrBig)
	}
	refused(t, "a box of another secret", s, open(s, 2, 3), api.ErrBox)
	refused(t, "a term, but no Box", s, open(s, 2, 5), api.ErrBox)
	refused(t, "a box that is no term", s, open(s, 1, 6), api.ErrArg)
	refused(t, "a secret that is no term", s, open(s, 6, 3), api.ErrArg)
	if name := opened(t, s, 2, 4, 1); name != 5 {
		t.Errorf("the secret that is there is %d", name)
	}
}

// TestOpenAheadOfABox: one that is to come is none yet.
func TestOpenAheadOfABox(t *testing.T) {
	s := samples.Store(9, samples.Nonce(1), samples.Nonce(2))
	pub := publicOf(t, s, 1)
	refused(t, "a box that is to come", s, open(s, 1, 4), api.ErrArg)
	b, _ := wrapped(t, s, pub, 2, 1)
	opened(t, s, 1, b, 2)
}

// P4.4

// TestBoxesAreOpenedByTheirSecretAlone: whatever is wrapped, of all terms that there are its secret alone opens it, and finds what Wrap told.
func TestBoxesAreOpenedByTheirSecretAlone(t *testing.T) {
	for seed := range int64(8) {
		r := rand.New(rand.NewSource(seed))
		s := samples.Store(1000, samples.OfEachKind()...)
		for range 25 {
			secret, drawn := 1+r.Intn(s.Len()), 1+r.Intn(s.Len())
			b, in := wrapped(t, s, publicOf(t, s, secret), drawn, secret)
			if r.Intn(3) == 0 {
				samples.Put(s, samples.Nonce(r.Uint64()))
			}
			if name := opened(t, s, secret, b, drawn); name != in {
				t.Fatalf("of %d and %d Open tells %d, and Wrap %d", secret, drawn, name, in)
			}
			for other := 1; other <= s.Len(); other++ {
				if other != secret {
					refused(t, "another secret", s, open(s, other, b), api.ErrBox)
				}
			}
		}
	}
}

// TestUnlikeOnesAreWrappedUnlike: no two secrets or draws have one box, or one secret in it.
func TestUnlikeOnesAreWrappedUnlike(t *testing.T) {
	const secrets = 10
	s := samples.Store(1000)
	for i := range secrets {
		samples.Put(s, samples.Nonce(uint64(i)))
	}
	seen := map[int][2]int{}
	for secret := 1; secret <= secrets; secret++ {
		pub := publicOf(t, s, secret)
		for drawn := 1; drawn <= secrets; drawn++ {
			b, in := wrapped(t, s, pub, drawn, secret)
			for _, name := range []int{b, in} {
				if old, ok := seen[name]; ok {
					t.Errorf("%v and %v both have %d", old, [2]int{secret, drawn}, name)
				}
				seen[name] = [2]int{secret, drawn}
			}
		}
	}
}

// TestCopiesOfAStoreWrapOnTheirOwn: what is wrapped in one of them the other one has not (R7).
func TestCopiesOfAStoreWrapOnTheirOwn(t *testing.T) {
	s := samples.Store(9, samples.Nonce(1), samples.Nonce(2))
	publicOf(t, s, 1)
	c := *s
	wrapped(t, s, 3, 2, 1)
	refused(t, "a box of the original alone", &c, open(&c, 1, 4), api.ErrArg)
	if b, _ := wrapped(t, &c, 3, 1, 1); b != 4 {
		t.Errorf("the copy's box is %d", b)
	}
	opened(t, s, 1, 4, 2)
	opened(t, &c, 1, 4, 1)
}
