package dh

import (
	"math/rand"
	"slices"
	"testing"

	"sough/api"
	"sough/samples"
	"sough/term"
)

// told looks whether a call tells the name of this term, and puts nothing but that.
func told(t *testing.T, s *term.Store, call func() (int, api.Errno), want term.Term) int {
	t.Helper()
	after, due := samples.With(samples.All(s), want)
	name, err := call()
	if name != due || err != api.OK {
		t.Errorf("told is %d, %d, not %d of %+v", name, err, due, want)
	}
	if got := samples.All(s); !slices.Equal(got, after) {
		t.Errorf("of %+v the store has %+v, not %+v", want, got, after)
	}
	return name
}

// refused looks whether a call is refused with this error, and changes nothing.
func refused(t *testing.T, why string, s *term.Store, call func() (int, api.Errno), want api.Errno) {
	t.Helper()
	before := samples.All(s)
	if name, err := call(); name != 0 || err != want {
		t.Errorf("%s: told is %d, %d, not 0, %d", why, name, err, want)
	}
	if !slices.Equal(samples.All(s), before) {
		t.Errorf("%s: what was refused changed the store", why)
	}
}

// public asks for the public key of a secret.
func public(s *term.Store, secret int) func() (int, api.Errno) {
	return func() (int, api.Errno) { return Public(s, secret) }
}

// agree asks for what a secret and a public key share.
func agree(s *term.Store, secret, public int) func() (int, api.Errno) {
	return func() (int, api.Errno) { return Agree(s, secret, public) }
}

// publicOf is the public key of a secret that there is.
func publicOf(t *testing.T, s *term.Store, secret int) int {
	t.Helper()
	return told(t, s, public(s, secret), samples.Pub(secret))
}

// agreed is what a secret and the public key of another one share, where both there are.
func agreed(t *testing.T, s *term.Store, secret, public, theirs int) int {
	t.Helper()
	return told(t, s, agree(s, secret, public), samples.Share(min(secret, theirs), max(secret, theirs)))
}

func TestExampleOfTheChapter(t *testing.T) {
	s := samples.Store(5, samples.Nonce(1), samples.Nonce(2))
	for i, x := range []struct {
		call func() (int, api.Errno)
		want int
	}{
		{public(s, 1), 3}, {public(s, 2), 4}, {agree(s, 1, 4), 5}, {agree(s, 2, 3), 5},
	} {
		if name, err := x.call(); name != x.want || err != api.OK {
			t.Errorf("the call %d tells %d, %d, not %d", i, name, err, x.want)
		}
	}
	if x, _ := s.Get(5); x != samples.Share(1, 2) {
		t.Errorf("the secret that both share is %+v", x)
	}
}

// P3.1

func TestPublicOfEachKind(t *testing.T) {
	l := samples.OfEachKind()
	for secret := 1; secret <= len(l); secret++ {
		s := samples.Store(20, l...)
		first := publicOf(t, s, secret)
		if again := publicOf(t, s, secret); again != first {
			t.Errorf("the public key of %d is %d, and then %d", secret, first, again)
		}
	}
}

func TestPublicOfAPublicKey(t *testing.T) {
	s := samples.Store(9, samples.Nonce(1))
	for secret := 1; secret < 9; secret++ {
		if name := publicOf(t, s, secret); name != secret+1 {
			t.Errorf("the public key of %d is %d", secret, name)
		}
	}
}

func TestPublicRefusesWhatIsNoTerm(t *testing.T) {
	for _, most := range []int{len(samples.OfEachKind()), 20} {
		s := samples.Store(most, samples.OfEachKind()...)
		for _, secret := range samples.NoNames(s) {
			refused(t, "a secret that is no term", s, public(s, secret), api.ErrArg)
		}
	}
	s := samples.Store(0)
	for _, secret := range samples.NoNames(s) {
		refused(t, "a secret of no term at all", s, public(s, secret), api.ErrArg)
	}
}

func TestPublicWithoutRoom(t *testing.T) {
	s := samples.Store(3, samples.Nonce(1), samples.Nonce(2), samples.Pub(1))
	refused(t, "a new public key", s, public(s, 2), api.ErrBig)
	refused(t, "a new public key of a public key", s, public(s, 3), api.ErrBig)
	refused(t, "a secret that is no term", s, public(s, 4), api.ErrArg)
	if name := publicOf(t, s, 1); name != 3 {
		t.Errorf("the public key that is there is %d", name)
	}
}

func TestIsOfEachKind(t *testing.T) {
	s := samples.Store(20, samples.OfEachKind()...)
	samples.Put(s, samples.Pub(1))
	samples.Put(s, samples.Pub(12))
	samples.Put(s, samples.Kpub(12))
	before := samples.All(s)
	for i, x := range before {
		if got := Is(s, i+1); got != (x.Kind == term.Pub) {
			t.Errorf("Is of %+v: %t", x, got)
		}
	}
	for _, name := range samples.NoNames(s) {
		if Is(s, name) {
			t.Errorf("Is(%d), but there is no such term", name)
		}
	}
	if !slices.Equal(samples.All(s), before) {
		t.Error("Is changed the store")
	}
}

func TestIsWhereThereIsNone(t *testing.T) {
	s := samples.Store(0)
	for _, name := range samples.NoNames(s) {
		if Is(s, name) {
			t.Errorf("Is(%d) of an empty store", name)
		}
	}
}

// TestIsOnceItIsThere: a name that is to come is none yet.
func TestIsOnceItIsThere(t *testing.T) {
	s := samples.Store(3, samples.Nonce(1))
	if Is(s, 2) {
		t.Error("Is of a public key ahead of its being put")
	}
	if name := publicOf(t, s, 1); !Is(s, name) || Is(s, 1) {
		t.Errorf("Is of the public key %d: %t; of its secret: %t", name, Is(s, name), Is(s, 1))
	}
}

// P3.2

// TestAgreeOfAllKinds: every term is a secret, and so is one of which there is a public key; of each two there is one Share, the lesser name first.
func TestAgreeOfAllKinds(t *testing.T) {
	l := samples.OfEachKind()
	for theirs := 1; theirs <= len(l); theirs++ {
		for secret := 1; secret <= len(l); secret++ {
			s := samples.Store(20, l...)
			pub := publicOf(t, s, theirs)
			first := agreed(t, s, secret, pub, theirs)
			if again := agreed(t, s, secret, pub, theirs); again != first {
				t.Errorf("of %d and %d told is %d, and then %d", secret, theirs, first, again)
			}
		}
	}
}

func TestAgreeOfBothSidesTellsTheLesserNameFirst(t *testing.T) {
	want := samples.Share(1, 2)
	for _, x := range []struct{ secret, public int }{{1, 4}, {2, 3}} {
		s := samples.Store(5, samples.Nonce(1), samples.Nonce(2), samples.Pub(1), samples.Pub(2))
		if name := told(t, s, agree(s, x.secret, x.public), want); name != 5 {
			t.Errorf("Agree(%d, %d) = %d", x.secret, x.public, name)
		}
	}
}

func TestAgreeOfOneSecretOnBothSides(t *testing.T) {
	s := samples.Store(9, samples.Nonce(1), samples.Nonce(2))
	pub := publicOf(t, s, 2)
	if x, _ := s.Get(agreed(t, s, 2, pub, 2)); x != samples.Share(2, 2) {
		t.Errorf("what a secret shares with itself is %+v", x)
	}
}

// TestAgreeOfAPublicKeyAsSecret: a public key is a term as any, and so a secret, of its own key too.
func TestAgreeOfAPublicKeyAsSecret(t *testing.T) {
	s := samples.Store(9, samples.Nonce(1))
	pub := publicOf(t, s, 1)
	over := publicOf(t, s, pub)
	agreed(t, s, pub, pub, 1)
	agreed(t, s, pub, over, pub)
	agreed(t, s, over, over, pub)
	agreed(t, s, 1, over, pub)
}

func TestAgreeOfAShare(t *testing.T) {
	s := samples.Store(20, samples.Nonce(1), samples.Nonce(2))
	one, two := publicOf(t, s, 1), publicOf(t, s, 2)
	share := agreed(t, s, 1, two, 2)
	pub := publicOf(t, s, share)
	over := agreed(t, s, share, one, 1)
	if name := agreed(t, s, 1, pub, share); name != over {
		t.Errorf("a Share of a Share is %d of one side, %d of the other one", over, name)
	}
	agreed(t, s, share, pub, share)
	agreed(t, s, over, pub, share)
}

func TestAgreeRefusesSecretsThatAreNoTerms(t *testing.T) {
	for _, most := range []int{12, 20} {
		s := samples.Store(most, samples.OfEachKind()...)
		pub := publicOf(t, s, 11)
		for _, secret := range samples.NoNames(s) {
			refused(t, "a secret that is no term", s, agree(s, secret, pub), api.ErrArg)
		}
	}
}

func TestAgreeRefusesWhatIsNoPublicKey(t *testing.T) {
	for _, most := range []int{11, 20} {
		s := samples.Store(most, samples.OfEachKind()...)
		for secret := 1; secret <= s.Len(); secret++ {
			for pub := 1; pub <= s.Len(); pub++ {
				if pub != term.Pub {
					refused(t, "a term, but no Pub", s, agree(s, secret, pub), api.ErrArg)
				}
			}
			for _, pub := range samples.NoNames(s) {
				refused(t, "a public key that is no term", s, agree(s, secret, pub), api.ErrArg)
			}
		}
		for _, secret := range samples.NoNames(s) {
			for _, pub := range append(samples.NoNames(s), term.Nonce, term.Kpub) {
				refused(t, "neither is one", s, agree(s, secret, pub), api.ErrArg)
			}
		}
	}
}

// TestAgreeAheadOfAPublicKey: one that is to come is none yet.
func TestAgreeAheadOfAPublicKey(t *testing.T) {
	s := samples.Store(9, samples.Nonce(1), samples.Nonce(2))
	refused(t, "a public key that is to come", s, agree(s, 1, 3), api.ErrArg)
	agreed(t, s, 1, publicOf(t, s, 2), 2)
}

func TestAgreeWithoutRoom(t *testing.T) {
	s := samples.Store(6, samples.Nonce(1), samples.Nonce(2), samples.Pub(1), samples.Pub(2), samples.Kpub(2), samples.Share(1, 2))
	refused(t, "a new Share of one secret", s, agree(s, 1, 3), api.ErrBig)
	refused(t, "a new Share of the lesser side", s, agree(s, 2, 4), api.ErrBig)
	refused(t, "a new Share of a Share", s, agree(s, 6, 3), api.ErrBig)
	refused(t, "a public key that is none", s, agree(s, 1, 5), api.ErrArg)
	refused(t, "a secret that is no term", s, agree(s, 7, 3), api.ErrArg)
	if one, other := agreed(t, s, 1, 4, 2), agreed(t, s, 2, 3, 1); one != 6 || other != 6 {
		t.Errorf("the Share that is there is %d, %d", one, other)
	}
}

// P3.3

// TestBothSidesAgree: whichever two secrets, whichever side asks first, whatever came between.
func TestBothSidesAgree(t *testing.T) {
	for seed := range int64(8) {
		r := rand.New(rand.NewSource(seed))
		s := samples.Store(1000, samples.OfEachKind()...)
		for range 150 {
			x, y := 1+r.Intn(s.Len()), 1+r.Intn(s.Len())
			mine, theirs := publicOf(t, s, x), publicOf(t, s, y)
			one := agreed(t, s, x, theirs, y)
			if r.Intn(3) == 0 {
				samples.Put(s, samples.Nonce(r.Uint64()))
			}
			if other := agreed(t, s, y, mine, x); other != one {
				t.Fatalf("%d and %d agree on %d, %d and %d on %d", x, y, one, y, x, other)
			}
		}
	}
}

// TestUnlikePairsShareUnlikeSecrets: no two pairs agree on one secret.
func TestUnlikePairsShareUnlikeSecrets(t *testing.T) {
	const secrets = 12
	s := samples.Store(1000)
	for i := range secrets {
		samples.Put(s, samples.Nonce(uint64(i)))
	}
	pairs := map[int][2]int{}
	for x := 1; x <= secrets; x++ {
		for y := x; y <= secrets; y++ {
			name := agreed(t, s, x, publicOf(t, s, y), y)
			if old, ok := pairs[name]; ok {
				t.Errorf("%v and %v agree on %d", old, [2]int{x, y}, name)
			}
			pairs[name] = [2]int{x, y}
		}
	}
}

// TestCopiesOfAStoreAgreeOnTheirOwn: what is agreed on in one of them the other one has not (R7).
func TestCopiesOfAStoreAgreeOnTheirOwn(t *testing.T) {
	s := samples.Store(9, samples.Nonce(1), samples.Nonce(2))
	c := *s
	publicOf(t, s, 2)
	if Is(&c, 3) {
		t.Error("a copy has its original's public key")
	}
	refused(t, "a public key of the original alone", &c, agree(&c, 1, 3), api.ErrArg)
	if name := publicOf(t, &c, 1); name != 3 {
		t.Errorf("the copy's public key is %d", name)
	}
	agreed(t, s, 1, 3, 2)
	agreed(t, &c, 2, 3, 1)
	agreed(t, &c, 1, 3, 1)
}
