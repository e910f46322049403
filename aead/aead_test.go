package aead

import (
	"math/rand"
	"slices"
	"strings"
	"testing"

	"sough/api"
	"sough/samples"
	"sough/term"
)

// call is one of the package's calls, that tells a name or a text.
type call[T comparable] func() (T, api.Errno)

func sealing(s *term.Store, key int, n uint64, beside, plain int) call[int] {
	return func() (int, api.Errno) { return Seal(s, key, n, beside, plain) }
}

func opening(s *term.Store, key int, n uint64, beside, sealed int) call[int] {
	return func() (int, api.Errno) { return Open(s, key, n, beside, sealed) }
}

func sealingText(s *term.Store, key int, n uint64, beside int, x string) call[int] {
	return func() (int, api.Errno) { return Text(s, key, n, beside, x) }
}

func reading(s *term.Store, key int, n uint64, beside, sealed int) call[string] {
	return func() (string, api.Errno) { return Read(s, key, n, beside, sealed) }
}

// answers looks whether a call answers just this, and leaves the store with these terms.
func answers[T comparable](t *testing.T, why string, s *term.Store, c call[T], want T, wantErr api.Errno, after []term.Term) {
	t.Helper()
	got, err := c()
	if got != want || err != wantErr {
		t.Errorf("%s: told is %v, %d, not %v, %d", why, got, err, want, wantErr)
	}
	if left := samples.All(s); !slices.Equal(left, after) {
		t.Errorf("%s: the store has %+v, not %+v", why, left, after)
	}
}

// told looks whether a call tells this, and puts nothing.
func told[T comparable](t *testing.T, why string, s *term.Store, c call[T], want T) {
	t.Helper()
	answers(t, why, s, c, want, api.OK, samples.All(s))
}

// refused looks whether a call is refused with this error, and puts these terms alone.
func refused[T comparable](t *testing.T, why string, s *term.Store, c call[T], want api.Errno, stays ...term.Term) {
	t.Helper()
	var zero T
	answers(t, why, s, c, zero, want, append(samples.All(s), stays...))
}

// neitherOpens looks whether Open and Read are both refused with this error, and put nothing.
func neitherOpens(t *testing.T, why string, s *term.Store, key int, n uint64, beside, sealed int, want api.Errno) {
	t.Helper()
	refused(t, why+": Open", s, opening(s, key, n, beside, sealed), want)
	refused(t, why+": Read", s, reading(s, key, n, beside, sealed), want)
}

// sealed is what Seal tells of terms that there are; it puts nothing but that.
func sealed(t *testing.T, s *term.Store, key int, n uint64, beside, plain int) int {
	t.Helper()
	after, name := samples.With(samples.All(s), samples.Seal(key, n, beside, plain))
	answers(t, "what is sealed", s, sealing(s, key, n, beside, plain), name, api.OK, after)
	return name
}

// sealedText is what Text tells of a text that may be; it puts nothing but that text, and then the Seal of it.
func sealedText(t *testing.T, s *term.Store, key int, n uint64, beside int, x string) int {
	t.Helper()
	after, plain := samples.With(samples.All(s), samples.Text(x))
	after, name := samples.With(after, samples.Seal(key, n, beside, plain))
	answers(t, "what is sealed of a text", s, sealingText(s, key, n, beside, x), name, api.OK, after)
	return name
}

func TestExampleOfTheChapter(t *testing.T) {
	s := samples.Store(3, samples.Nonce(1))
	if name, err := Text(s, 1, 0, 1, "ab"); name != 3 || err != api.OK {
		t.Errorf("Text = %d, %d", name, err)
	}
	if got, err := Read(s, 1, 0, 1, 3); got != "ab" || err != api.OK {
		t.Errorf("Read = %q, %d", got, err)
	}
	if got, err := Read(s, 1, 1, 1, 3); got != "" || err != api.ErrSeal {
		t.Errorf("Read with another number = %q, %d", got, err)
	}
	if want := []term.Term{samples.Nonce(1), samples.Text("ab"), samples.Seal(1, 0, 1, 2)}; !slices.Equal(samples.All(s), want) {
		t.Errorf("the store has %+v, not %+v", samples.All(s), want)
	}
}

// P5.1

// TestSealAndOpenOfAllKinds: every term may be the key, stand beside, and be sealed; two or all three of them may be one.
func TestSealAndOpenOfAllKinds(t *testing.T) {
	l := samples.OfEachKind()
	for key := 1; key <= len(l); key++ {
		for beside := 1; beside <= len(l); beside++ {
			for plain := 1; plain <= len(l); plain++ {
				s := samples.Store(20, l...)
				name := sealed(t, s, key, 5, beside, plain)
				if again := sealed(t, s, key, 5, beside, plain); again != name {
					t.Errorf("of %d, %d and %d told is %d, and then %d", key, beside, plain, name, again)
				}
				told(t, "what was sealed", s, opening(s, key, 5, beside, name), plain)
			}
		}
	}
}

func TestSealAndOpenOfAllNumbers(t *testing.T) {
	s := samples.Store(30, samples.Nonce(1), samples.Nonce(2), samples.Nonce(3))
	for i, n := range samples.Numbers() {
		if name := sealed(t, s, 1, n, 2, 3); name != 4+i {
			t.Errorf("with the number %d it is %d", n, name)
		}
	}
	for i, n := range samples.Numbers() {
		told(t, "what was sealed", s, opening(s, 1, n, 2, 4+i), 3)
	}
}

// TestSealOfASeal: what is sealed may be sealed again, and opened one by one.
func TestSealOfASeal(t *testing.T) {
	s := samples.Store(9, samples.Nonce(1), samples.Nonce(2))
	for plain := 2; plain < 9; plain++ {
		if name := sealed(t, s, 1, 0, 1, plain); name != plain+1 {
			t.Errorf("the Seal of %d is %d", plain, name)
		}
	}
	for name := 9; name > 2; name-- {
		told(t, "what was sealed", s, opening(s, 1, 0, 1, name), name-1)
	}
}

func TestSealRefusesWhatIsNoTerm(t *testing.T) {
	for _, most := range []int{len(samples.OfEachKind()), 20} {
		s := samples.Store(most, samples.OfEachKind()...)
		for _, none := range samples.NoNames(s) {
			refused(t, "a key that is no term", s, sealing(s, none, 3, 8, 1), api.ErrArg)
			refused(t, "no term beside", s, sealing(s, 9, 3, none, 1), api.ErrArg)
			refused(t, "no term to be sealed", s, sealing(s, 9, 3, 8, none), api.ErrArg)
			refused(t, "no term at all", s, sealing(s, none, 3, none, none), api.ErrArg)
		}
	}
	s := samples.Store(0)
	for _, none := range samples.NoNames(s) {
		refused(t, "nothing in the store", s, sealing(s, none, 0, none, none), api.ErrArg)
	}
}

func TestSealWithoutRoom(t *testing.T) {
	s := samples.Store(4, samples.Nonce(1), samples.Nonce(2), samples.Nonce(3), samples.Seal(1, 0, 2, 3))
	refused(t, "a new Seal", s, sealing(s, 1, 1, 2, 3), api.ErrBig)
	refused(t, "a new Seal of the one that is there", s, sealing(s, 1, 0, 2, 4), api.ErrBig)
	refused(t, "what is to be sealed is no term", s, sealing(s, 1, 1, 2, 5), api.ErrArg)
	if name := sealed(t, s, 1, 0, 2, 3); name != 4 {
		t.Errorf("the Seal that is there is %d", name)
	}
}

// TestOpenRefusesWhatIsNoTerm: whatever the others are.
func TestOpenRefusesWhatIsNoTerm(t *testing.T) {
	for _, most := range []int{len(samples.OfEachKind()), 20} {
		s := samples.Store(most, samples.OfEachKind()...)
		for _, none := range samples.NoNames(s) {
			neitherOpens(t, "a key that is no term", s, none, 3, 8, term.Seal, api.ErrArg)
			neitherOpens(t, "no term beside", s, 9, 3, none, term.Seal, api.ErrArg)
			neitherOpens(t, "no term that is sealed", s, 9, 3, 8, none, api.ErrArg)
			neitherOpens(t, "a key alone that is a term", s, 9, 3, none, none, api.ErrArg)
			neitherOpens(t, "one beside alone that is a term", s, none, 3, 8, none, api.ErrArg)
			neitherOpens(t, "no term at all", s, none, 3, none, none, api.ErrArg)
			neitherOpens(t, "a key that is no term, of what is no Seal", s, none, 3, 8, term.Pair, api.ErrArg)
			neitherOpens(t, "no term beside, of what is no Seal", s, 9, 3, none, term.Pair, api.ErrArg)
			neitherOpens(t, "no term beside, with another key and number", s, 2, 4, none, term.Seal, api.ErrArg)
			neitherOpens(t, "no term that is sealed, with another key and number", s, 2, 4, 8, none, api.ErrArg)
		}
	}
	s := samples.Store(0)
	for _, none := range samples.NoNames(s) {
		neitherOpens(t, "nothing in the store", s, none, 0, none, none, api.ErrArg)
	}
}

// TestOpenRefusesWhatIsNoSealOfThese: among all terms there is one Seal, that one key, number, and term beside open.
func TestOpenRefusesWhatIsNoSealOfThese(t *testing.T) {
	for _, most := range []int{len(samples.OfEachKind()), 20} {
		s := samples.Store(most, samples.OfEachKind()...)
		for key := 1; key <= s.Len(); key++ {
			for beside := 1; beside <= s.Len(); beside++ {
				for name := 1; name <= s.Len(); name++ {
					if key != 9 || beside != 8 || name != term.Seal {
						neitherOpens(t, "no Seal of these", s, key, 3, beside, name, api.ErrSeal)
					}
				}
			}
		}
		for _, n := range samples.Numbers() {
			neitherOpens(t, "another number", s, 9, n, 8, term.Seal, api.ErrSeal)
		}
		told(t, "what was sealed", s, opening(s, 9, 3, 8, term.Seal), 1)
	}
}

// TestOpenRefusesLikeOnes: of what two keys, numbers, or terms beside sealed none is taken for another.
func TestOpenRefusesLikeOnes(t *testing.T) {
	s := samples.Store(9, samples.Nonce(1), samples.Nonce(2), samples.Text("ab"))
	name := sealed(t, s, 1, 0, 2, 3)
	otherKey, otherN, otherBeside := sealed(t, s, 2, 0, 2, 3), sealed(t, s, 1, 1, 2, 3), sealed(t, s, 1, 0, 1, 3)
	for _, x := range []struct {
		why  string
		name int
	}{
		{"sealed by another key", otherKey},
		{"sealed with another number", otherN},
		{"sealed with something else beside", otherBeside},
		{"sealed the other way round", sealed(t, s, 2, 0, 1, 3)},
		{"what is sealed itself", 3},
	} {
		neitherOpens(t, x.why, s, 1, 0, 2, x.name, api.ErrSeal)
	}
	neitherOpens(t, "the Seal itself as key", s, name, 0, 2, name, api.ErrSeal)
	neitherOpens(t, "the Seal itself beside", s, 1, 0, name, name, api.ErrSeal)
	neitherOpens(t, "what is sealed as key", s, 3, 0, 2, name, api.ErrSeal)
	neitherOpens(t, "key and what stands beside the wrong way round", s, 2, 0, 1, name, api.ErrSeal)
	told(t, "what was sealed", s, opening(s, 1, 0, 2, name), 3)
}

// TestOpenNeedsNoRoom: it puts nothing.
func TestOpenNeedsNoRoom(t *testing.T) {
	s := samples.Store(2, samples.Nonce(1), samples.Seal(1, 0, 1, 1))
	told(t, "what was sealed", s, opening(s, 1, 0, 1, 2), 1)
	refused(t, "another number", s, opening(s, 1, 1, 1, 2), api.ErrSeal)
}

// P5.2

// TestTextAndReadOfAllKinds: every term may be the key, and stand beside; the text itself, too.
func TestTextAndReadOfAllKinds(t *testing.T) {
	l := samples.OfEachKind()
	for key := 1; key <= len(l); key++ {
		for beside := 1; beside <= len(l); beside++ {
			for _, x := range []string{"ab", "new"} {
				s := samples.Store(20, l...)
				name := sealedText(t, s, key, 5, beside, x)
				if again := sealedText(t, s, key, 5, beside, x); again != name {
					t.Errorf("of %d and %d told is %d, and then %d", key, beside, name, again)
				}
				told(t, "the text that was sealed", s, reading(s, key, 5, beside, name), x)
			}
		}
	}
}

func TestTextAndReadOfAllNumbers(t *testing.T) {
	s := samples.Store(30, samples.Nonce(1), samples.Nonce(2))
	for _, n := range samples.Numbers() {
		name := sealedText(t, s, 1, n, 2, "ab")
		told(t, "the text that was sealed", s, reading(s, 1, n, 2, name), "ab")
	}
}

// TestTextAndReadOfTexts: of no bytes, of any bytes, and of as many as may be.
func TestTextAndReadOfTexts(t *testing.T) {
	for _, x := range []string{"", "a", "\x00", "\xff\xfe", "\u00e9", samples.EachByte(), strings.Repeat("x", api.MaxText-1), strings.Repeat("\xff", api.MaxText)} {
		s := samples.Store(9, samples.Nonce(1), samples.Nonce(2))
		name := sealedText(t, s, 1, 0, 2, x)
		told(t, "the text that was sealed", s, reading(s, 1, 0, 2, name), x)
		plain, err := Open(s, 1, 0, 2, name)
		if got, _ := s.Get(plain); got != samples.Text(x) || err != api.OK {
			t.Errorf("what was sealed of %d bytes is %+v, %d", len(x), got, err)
		}
	}
}

func TestTextWhereOneIsThere(t *testing.T) {
	for _, x := range []struct {
		why   string
		there []term.Term
		name  int
	}{
		{"neither", nil, 4},
		{"the Text", []term.Term{samples.Text("ab")}, 4},
		{"both", []term.Term{samples.Text("ab"), samples.Seal(1, 0, 2, 3)}, 4},
		{"the Text, and Seals of others", []term.Term{samples.Text("ab"), samples.Seal(2, 0, 1, 3), samples.Seal(1, 1, 2, 3)}, 6},
		{"another text", []term.Term{samples.Text("a")}, 5},
	} {
		s := samples.Store(9, append([]term.Term{samples.Nonce(1), samples.Nonce(2)}, x.there...)...)
		if name := sealedText(t, s, 1, 0, 2, "ab"); name != x.name {
			t.Errorf("where %s stood it is %d, not %d", x.why, name, x.name)
		}
	}
}

// TestTextRefusesWhatIsNoTerm: whatever the text is, and whatever room there is; the name that the text would have is none yet.
func TestTextRefusesWhatIsNoTerm(t *testing.T) {
	for _, most := range []int{len(samples.OfEachKind()), len(samples.OfEachKind()) + 1, 20} {
		s := samples.Store(most, samples.OfEachKind()...)
		for _, x := range []string{"", "ab", "new", strings.Repeat("x", api.MaxText), strings.Repeat("x", api.MaxText+1)} {
			for _, none := range samples.NoNames(s) {
				refused(t, "a key that is no term", s, sealingText(s, none, 3, 8, x), api.ErrArg)
				refused(t, "no term beside", s, sealingText(s, 9, 3, none, x), api.ErrArg)
				refused(t, "no term at all", s, sealingText(s, none, 3, none, x), api.ErrArg)
			}
		}
	}
	s := samples.Store(0)
	for _, none := range samples.NoNames(s) {
		refused(t, "nothing in the store", s, sealingText(s, none, 0, none, "ab"), api.ErrArg)
	}
}

func TestTextRefusesTextsThatAreTooLong(t *testing.T) {
	for _, most := range []int{len(samples.OfEachKind()), len(samples.OfEachKind()) + 1, 20} {
		s := samples.Store(most, samples.OfEachKind()...)
		for _, size := range []int{api.MaxText + 1, api.MaxText + 2, 2 * api.MaxText, 1 << 20} {
			refused(t, "a text that is too long", s, sealingText(s, 9, 3, 8, strings.Repeat("x", size)), api.ErrArg)
		}
	}
}

func TestTextWithoutRoom(t *testing.T) {
	s := samples.Store(4, samples.Nonce(1), samples.Nonce(2), samples.Text("ab"), samples.Seal(1, 0, 2, 3))
	for range 2 {
		refused(t, "a new Text", s, sealingText(s, 1, 0, 2, "a"), api.ErrBig)
		refused(t, "a new Seal of a Text that is there", s, sealingText(s, 1, 1, 2, "ab"), api.ErrBig)
	}
	refused(t, "a key that is no term", s, sealingText(s, 5, 0, 2, "a"), api.ErrArg)
	refused(t, "no term beside", s, sealingText(s, 1, 0, 5, "a"), api.ErrArg)
	refused(t, "a text that is too long", s, sealingText(s, 1, 0, 2, strings.Repeat("x", api.MaxText+1)), api.ErrArg)
	if name := sealedText(t, s, 1, 0, 2, "ab"); name != 4 {
		t.Errorf("the Seal that is there is %d", name)
	}
}

// TestTextWithRoomForTheTextAlone: it stays, though the call tells none of it.
func TestTextWithRoomForTheTextAlone(t *testing.T) {
	s := samples.Store(3, samples.Nonce(1), samples.Nonce(2))
	refused(t, "a new Seal behind a new Text", s, sealingText(s, 1, 0, 2, "ab"), api.ErrBig, samples.Text("ab"))
	refused(t, "a new Seal of the Text that stayed", s, sealingText(s, 1, 0, 2, "ab"), api.ErrBig)
	refused(t, "another Text", s, sealingText(s, 1, 0, 2, "a"), api.ErrBig)
	if name := samples.Put(s, samples.Text("ab")); name != 3 {
		t.Errorf("the Text that stayed is %d", name)
	}
}

func TestTextWithRoomForTheSealAlone(t *testing.T) {
	s := samples.Store(4, samples.Nonce(1), samples.Nonce(2), samples.Text("ab"))
	if name := sealedText(t, s, 1, 0, 2, "ab"); name != 4 {
		t.Errorf("the Seal is %d", name)
	}
}

// TestReadRefusesWhatIsNoText: Open tells what it is; Read's error is that of a Seal that does not open.
func TestReadRefusesWhatIsNoText(t *testing.T) {
	l := samples.OfEachKind()
	for plain := 1; plain <= len(l); plain++ {
		s := samples.Store(20, l...)
		name := sealed(t, s, 9, 0, 8, plain)
		told(t, "what was sealed", s, opening(s, 9, 0, 8, name), plain)
		if plain == term.Text {
			told(t, "the text that was sealed", s, reading(s, 9, 0, 8, name), "ab")
			continue
		}
		refused(t, "what is no Text", s, reading(s, 9, 0, 8, name), api.ErrSeal)
		refused(t, "what is no Text, with another number", s, reading(s, 9, 1, 8, name), api.ErrSeal)
		refused(t, "what is no Text, by a key that is no term", s, reading(s, 0, 0, 8, name), api.ErrArg)
		refused(t, "what is no Text, with no term beside", s, reading(s, 9, 0, -1, name), api.ErrArg)
	}
}

// TestReadNeedsNoRoom: it puts nothing.
func TestReadNeedsNoRoom(t *testing.T) {
	s := samples.Store(3, samples.Nonce(1), samples.Text("ab"), samples.Seal(1, 0, 1, 2))
	told(t, "the text that was sealed", s, reading(s, 1, 0, 1, 3), "ab")
	refused(t, "a Text, but no Seal", s, reading(s, 1, 0, 1, 2), api.ErrSeal)
}

// TestOneTermAsKeyAndBesideAndPlain: the Text itself may be the key, and stand beside.
func TestOneTermAsKeyAndBesideAndPlain(t *testing.T) {
	s := samples.Store(9, samples.Text("ab"), samples.Nonce(1))
	if name := sealedText(t, s, 1, 0, 1, "ab"); name != 3 {
		t.Errorf("the Seal is %d", name)
	}
	if name := sealed(t, s, 1, 0, 1, 1); name != 3 {
		t.Errorf("the same Seal is %d", name)
	}
	told(t, "what was sealed", s, opening(s, 1, 0, 1, 3), 1)
	told(t, "the text that was sealed", s, reading(s, 1, 0, 1, 3), "ab")
	neitherOpens(t, "another key", s, 2, 0, 1, 3, api.ErrSeal)
	neitherOpens(t, "something else beside", s, 1, 0, 2, 3, api.ErrSeal)
}

// TestWhatIsToCome: names that are to come are none yet, and are what comes then.
func TestWhatIsToCome(t *testing.T) {
	s := samples.Store(9, samples.Nonce(1))
	refused(t, "what is to be sealed", s, sealing(s, 1, 0, 1, 2), api.ErrArg)
	neitherOpens(t, "what is to be opened", s, 1, 0, 1, 3, api.ErrArg)
	name := sealedText(t, s, 1, 0, 1, "ab")
	told(t, "the text that was sealed", s, reading(s, 1, 0, 1, name), "ab")
	sealed(t, s, 1, 1, 1, 2)
}

// P5.3

// TestSealsAreOpenedByTheirsAlone: whatever is sealed, its own key, number, and what stands beside open it, and no others do.
func TestSealsAreOpenedByTheirsAlone(t *testing.T) {
	for seed := range int64(6) {
		r := rand.New(rand.NewSource(seed))
		s := samples.Store(1000, samples.OfEachKind()...)
		for range 12 {
			key, n, beside := 1+r.Intn(s.Len()), samples.Numbers()[r.Intn(len(samples.Numbers()))], 1+r.Intn(s.Len())
			plain := 1 + r.Intn(s.Len())
			name := sealed(t, s, key, n, beside, plain)
			told(t, "what was sealed", s, opening(s, key, n, beside, name), plain)
			for other := 1; other <= s.Len(); other++ {
				if other != key {
					neitherOpens(t, "another key", s, other, n, beside, name, api.ErrSeal)
				}
				if other != beside {
					neitherOpens(t, "something else beside", s, key, n, other, name, api.ErrSeal)
				}
			}
			for _, other := range append(samples.Numbers(), n+1, n-1, n^1<<63) {
				if other != n {
					neitherOpens(t, "another number", s, key, other, beside, name, api.ErrSeal)
				}
			}
		}
	}
}

// TestUnlikeOnesAreSealedUnlike: no two keys, numbers, terms beside, or texts have one Seal.
func TestUnlikeOnesAreSealedUnlike(t *testing.T) {
	const terms = 4
	s := samples.Store(1000)
	for i := range terms {
		samples.Put(s, samples.Nonce(uint64(i)))
	}
	seen := map[int]bool{}
	count := 0
	for key := 1; key <= terms; key++ {
		for beside := 1; beside <= terms; beside++ {
			for _, n := range samples.Numbers() {
				for _, x := range []string{"", "a", "b"} {
					seen[sealedText(t, s, key, n, beside, x)] = true
					count++
				}
			}
		}
	}
	if len(seen) != count {
		t.Errorf("%d unlike ones have %d Seals", count, len(seen))
	}
}

// TestCopiesOfAStoreSealOnTheirOwn: what is sealed in one of them the other one has not (R7).
func TestCopiesOfAStoreSealOnTheirOwn(t *testing.T) {
	s := samples.Store(9, samples.Nonce(1))
	c := *s
	name := sealedText(t, s, 1, 0, 1, "ab")
	neitherOpens(t, "a Seal of the original alone", &c, 1, 0, 1, name, api.ErrArg)
	if other := sealedText(t, &c, 1, 0, 1, "cd"); other != name {
		t.Errorf("the copy's Seal is %d", other)
	}
	told(t, "the original's text", s, reading(s, 1, 0, 1, name), "ab")
	told(t, "the copy's text", &c, reading(&c, 1, 0, 1, name), "cd")
}
