package kdf

import (
	"math"
	"math/rand"
	"slices"
	"testing"

	"sough/api"
	"sough/samples"
	"sough/term"
)

// call is one of the package's calls; where it tells one name the other one is 0.
type call func() (int, int, api.Errno)

func hashing(s *term.Store, a, b int) call {
	return func() (int, int, api.Errno) {
		name, err := Hash(s, a, b)
		return name, 0, err
	}
}

func deriving(s *term.Store, of int, label uint64) call {
	return func() (int, int, api.Errno) {
		name, err := Derive(s, of, label)
		return name, 0, err
	}
}

func mixing(s *term.Store, of, in int) call {
	return func() (int, int, api.Errno) { return Mix(s, of, in) }
}

func chaining(s *term.Store, of int, label uint64, times int) call {
	return func() (int, int, api.Errno) {
		name, err := Chain(s, of, label, times)
		return name, 0, err
	}
}

// answers looks whether a call answers just this, and leaves the store with these terms.
func answers(t *testing.T, why string, s *term.Store, c call, want, second int, wantErr api.Errno, after []term.Term) {
	t.Helper()
	got, gotSecond, err := c()
	if got != want || gotSecond != second || err != wantErr {
		t.Errorf("%s: told is %d, %d, %d, not %d, %d, %d", why, got, gotSecond, err, want, second, wantErr)
	}
	if left := samples.All(s); !slices.Equal(left, after) {
		t.Errorf("%s: the store has %+v, not %+v", why, left, after)
	}
}

// refused looks whether a call is refused with this error, and puts these terms alone.
func refused(t *testing.T, why string, s *term.Store, c call, want api.Errno, stays ...term.Term) {
	t.Helper()
	answers(t, why, s, c, 0, 0, want, append(samples.All(s), stays...))
}

// hashed is what Hash tells of terms that there are; it puts nothing but that.
func hashed(t *testing.T, s *term.Store, a, b int) int {
	t.Helper()
	after, name := samples.With(samples.All(s), samples.Hash(a, b))
	answers(t, "a hash", s, hashing(s, a, b), name, 0, api.OK, after)
	return name
}

// derived is what Derive tells of a term that there is; it puts nothing but that.
func derived(t *testing.T, s *term.Store, of int, label uint64) int {
	t.Helper()
	after, name := samples.With(samples.All(s), samples.Key(of, label))
	answers(t, "a key", s, deriving(s, of, label), name, 0, api.OK, after)
	return name
}

// mixed is what Mix tells of terms that there are; it puts nothing but the Hash, and then the keys, by rising labels.
func mixed(t *testing.T, s *term.Store, of, in int) (int, int) {
	t.Helper()
	after, both := samples.With(samples.All(s), samples.Hash(of, in))
	after, first := samples.With(after, samples.Key(both, 1))
	after, second := samples.With(after, samples.Key(both, 2))
	answers(t, "two keys", s, mixing(s, of, in), first, second, api.OK, after)
	return first, second
}

// chained is what Chain tells of a term that there is; it puts nothing but keys, each of the one ahead of it.
func chained(t *testing.T, s *term.Store, of int, label uint64, times int) int {
	t.Helper()
	after, name := samples.All(s), of
	for range times {
		after, name = samples.With(after, samples.Key(name, label))
	}
	answers(t, "a chain's last key", s, chaining(s, of, label, times), name, 0, api.OK, after)
	return name
}

// is looks whether a name is the one that is due.
func is(t *testing.T, why string, name, want int) {
	t.Helper()
	if name != want {
		t.Errorf("%s is %d, not %d", why, name, want)
	}
}

func TestExampleOfTheChapter(t *testing.T) {
	s := samples.Store(8, samples.Nonce(1), samples.Nonce(2))
	if first, second, err := Mix(s, 1, 2); first != 4 || second != 5 || err != api.OK {
		t.Errorf("Mix = %d, %d, %d", first, second, err)
	}
	if name, err := Chain(s, 4, 2, 3); name != 8 || err != api.OK {
		t.Errorf("Chain = %d, %d", name, err)
	}
	want := []term.Term{samples.Nonce(1), samples.Nonce(2), samples.Hash(1, 2), samples.Key(3, 1), samples.Key(3, 2), samples.Key(4, 2), samples.Key(6, 2), samples.Key(7, 2)}
	if !slices.Equal(samples.All(s), want) {
		t.Errorf("the store has %+v, not %+v", samples.All(s), want)
	}
}

// P6.1

// TestHashOfAllKinds: every term may stand in each place, and one in both.
func TestHashOfAllKinds(t *testing.T) {
	l := samples.OfEachKind()
	for a := 1; a <= len(l); a++ {
		for b := 1; b <= len(l); b++ {
			s := samples.Store(20, l...)
			name := hashed(t, s, a, b)
			is(t, "the same hash", hashed(t, s, a, b), name)
		}
	}
}

// TestHashInBothOrders: unlike what two share, a hash is another one the other way round.
func TestHashInBothOrders(t *testing.T) {
	s := samples.Store(9, samples.Nonce(1), samples.Nonce(2))
	is(t, "a hash", hashed(t, s, 1, 2), 3)
	is(t, "the other way round", hashed(t, s, 2, 1), 4)
	is(t, "of one in both places", hashed(t, s, 1, 1), 5)
	is(t, "of the other one in both places", hashed(t, s, 2, 2), 6)
	is(t, "of a hash", hashed(t, s, 3, 4), 7)
	is(t, "the first one", hashed(t, s, 1, 2), 3)
}

func TestHashRefusesWhatIsNoTerm(t *testing.T) {
	for _, most := range []int{len(samples.OfEachKind()), 20} {
		s := samples.Store(most, samples.OfEachKind()...)
		for _, none := range samples.NoNames(s) {
			refused(t, "no term first", s, hashing(s, none, 1), api.ErrArg)
			refused(t, "no term second", s, hashing(s, 2, none), api.ErrArg)
			refused(t, "no term at all", s, hashing(s, none, none), api.ErrArg)
		}
	}
	s := samples.Store(0)
	for _, none := range samples.NoNames(s) {
		refused(t, "nothing in the store", s, hashing(s, none, none), api.ErrArg)
	}
}

func TestHashWithoutRoom(t *testing.T) {
	s := samples.Store(3, samples.Nonce(1), samples.Nonce(2), samples.Hash(1, 2))
	refused(t, "a new hash", s, hashing(s, 2, 1), api.ErrBig)
	refused(t, "a new hash of the one that is there", s, hashing(s, 3, 3), api.ErrBig)
	refused(t, "a new hash of what is no term", s, hashing(s, 1, 4), api.ErrArg)
	is(t, "the hash that is there", hashed(t, s, 1, 2), 3)
}

// TestDeriveOfAllKinds: every term may be that of which a key is derived.
func TestDeriveOfAllKinds(t *testing.T) {
	l := samples.OfEachKind()
	for of := 1; of <= len(l); of++ {
		for _, label := range append(samples.Numbers(), 9) {
			s := samples.Store(20, l...)
			name := derived(t, s, of, label)
			is(t, "the same key", derived(t, s, of, label), name)
		}
	}
}

func TestDeriveWithAllLabels(t *testing.T) {
	s := samples.Store(30, samples.Nonce(1))
	for range 2 {
		for i, label := range samples.Numbers() {
			is(t, "a key", derived(t, s, 1, label), 2+i)
		}
	}
}

func TestDeriveRefusesWhatIsNoTerm(t *testing.T) {
	for _, most := range []int{len(samples.OfEachKind()), 20} {
		s := samples.Store(most, samples.OfEachKind()...)
		for _, none := range samples.NoNames(s) {
			for _, label := range samples.Numbers() {
				refused(t, "of no term", s, deriving(s, none, label), api.ErrArg)
			}
		}
	}
	s := samples.Store(0)
	for _, none := range samples.NoNames(s) {
		refused(t, "nothing in the store", s, deriving(s, none, 0), api.ErrArg)
	}
}

func TestDeriveWithoutRoom(t *testing.T) {
	s := samples.Store(2, samples.Nonce(1), samples.Key(1, 0))
	refused(t, "another label", s, deriving(s, 1, 1), api.ErrBig)
	refused(t, "a key of the one that is there", s, deriving(s, 2, 0), api.ErrBig)
	refused(t, "a key of what is no term", s, deriving(s, 3, 0), api.ErrArg)
	is(t, "the key that is there", derived(t, s, 1, 0), 2)
}

// P6.2

// TestMixOfAllKinds: every term may be the key, and be mixed in, and one may be both.
func TestMixOfAllKinds(t *testing.T) {
	l := samples.OfEachKind()
	for of := 1; of <= len(l); of++ {
		for in := 1; in <= len(l); in++ {
			s := samples.Store(20, l...)
			first, second := mixed(t, s, of, in)
			firstAgain, secondAgain := mixed(t, s, of, in)
			is(t, "the same first key", firstAgain, first)
			is(t, "the same second key", secondAgain, second)
		}
	}
}

func TestMixInBothOrders(t *testing.T) {
	s := samples.Store(9, samples.Nonce(1), samples.Nonce(2))
	first, second := mixed(t, s, 1, 2)
	is(t, "the first key", first, 4)
	is(t, "the second key", second, 5)
	first, second = mixed(t, s, 2, 1)
	is(t, "the first key the other way round", first, 7)
	is(t, "the second key the other way round", second, 8)
}

// TestMixWhereSomeIsThere: what is there has its own name, and the rest comes behind, in its order.
func TestMixWhereSomeIsThere(t *testing.T) {
	for _, x := range []struct {
		why           string
		there         []term.Term
		first, second int
	}{
		{"nothing", nil, 4, 5},
		{"the Hash", []term.Term{samples.Hash(1, 2)}, 4, 5},
		{"the Hash of the other order", []term.Term{samples.Hash(2, 1)}, 5, 6},
		{"the Hash and the first key", []term.Term{samples.Hash(1, 2), samples.Key(3, 1)}, 4, 5},
		{"the Hash and the second key", []term.Term{samples.Hash(1, 2), samples.Key(3, 2)}, 5, 4},
		{"the Hash and keys of other labels", []term.Term{samples.Hash(1, 2), samples.Key(3, 0), samples.Key(3, 3)}, 6, 7},
		{"all, the second key first", []term.Term{samples.Hash(1, 2), samples.Key(3, 2), samples.Key(3, 1)}, 5, 4},
		{"keys of the key itself", []term.Term{samples.Key(1, 1), samples.Key(1, 2)}, 6, 7},
	} {
		s := samples.Store(9, append([]term.Term{samples.Nonce(1), samples.Nonce(2)}, x.there...)...)
		first, second := mixed(t, s, 1, 2)
		is(t, "the first key where there is "+x.why, first, x.first)
		is(t, "the second key where there is "+x.why, second, x.second)
	}
}

// TestMixRefusesWhatIsNoTerm: whatever room there is; the name that the Hash would have is none yet.
func TestMixRefusesWhatIsNoTerm(t *testing.T) {
	for _, most := range []int{len(samples.OfEachKind()), len(samples.OfEachKind()) + 1, 20} {
		s := samples.Store(most, samples.OfEachKind()...)
		for _, none := range samples.NoNames(s) {
			refused(t, "a key that is no term", s, mixing(s, none, 1), api.ErrArg)
			refused(t, "no term mixed in", s, mixing(s, 9, none), api.ErrArg)
			refused(t, "no term at all", s, mixing(s, none, none), api.ErrArg)
		}
	}
	s := samples.Store(0)
	for _, none := range samples.NoNames(s) {
		refused(t, "nothing in the store", s, mixing(s, none, none), api.ErrArg)
	}
}

// TestMixWithoutRoomForAll: what was put ahead of the want of room stays, though the call tells none of it; a second time there is no more.
func TestMixWithoutRoomForAll(t *testing.T) {
	puts := []term.Term{samples.Hash(1, 2), samples.Key(3, 1), samples.Key(3, 2)}
	for room := range puts {
		s := samples.Store(2+room, samples.Nonce(1), samples.Nonce(2))
		refused(t, "new keys", s, mixing(s, 1, 2), api.ErrBig, puts[:room]...)
		refused(t, "new keys again", s, mixing(s, 1, 2), api.ErrBig)
		refused(t, "other ones", s, mixing(s, 2, 1), api.ErrBig)
		refused(t, "a key that is no term", s, mixing(s, 3+room, 2), api.ErrArg)
	}
	s := samples.Store(5, samples.Nonce(1), samples.Nonce(2))
	for range 2 {
		first, second := mixed(t, s, 1, 2)
		is(t, "the first key", first, 4)
		is(t, "the second key", second, 5)
	}
}

// TestMixWithoutRoomWhereSomeIsThere: what is there needs none.
func TestMixWithoutRoomWhereSomeIsThere(t *testing.T) {
	s := samples.Store(3, samples.Nonce(1), samples.Hash(1, 1), samples.Key(2, 2))
	refused(t, "the first key", s, mixing(s, 1, 1), api.ErrBig)
	s = samples.Store(4, samples.Nonce(1), samples.Hash(1, 1), samples.Key(2, 2))
	first, second := mixed(t, s, 1, 1)
	is(t, "the first key", first, 4)
	is(t, "the second key", second, 3)
	s = samples.Store(3, samples.Nonce(1), samples.Hash(1, 1), samples.Key(2, 1))
	refused(t, "the second key", s, mixing(s, 1, 1), api.ErrBig)
}

// P6.3

// TestChainOfAllKinds: of every term, with every label, of few times.
func TestChainOfAllKinds(t *testing.T) {
	l := samples.OfEachKind()
	for of := 1; of <= len(l); of++ {
		for _, label := range append(samples.Numbers(), 9) {
			for times := range 4 {
				s := samples.Store(20, l...)
				name := chained(t, s, of, label, times)
				is(t, "the same chain's last key", chained(t, s, of, label, times), name)
			}
		}
	}
}

func TestChainOfTimes(t *testing.T) {
	for _, times := range []int{0, 1, 2, 3, 255, 256, 257, 999, 1000} {
		s := samples.Store(1002, samples.Nonce(1), samples.Nonce(2))
		want := 2 + times
		if times == 0 {
			want = 1
		}
		for range 2 {
			is(t, "the last key", chained(t, s, 1, 5, times), want)
		}
		if got, depth := s.Len(), s.Depth(want); got != 2+times || depth != 1+times {
			t.Errorf("of %d times there are %d terms, and the last key is %d deep", times, got, depth)
		}
	}
}

// TestChainRefusesTimes: that are below 0, or above 1000; the key may be any, and the room, too.
func TestChainRefusesTimes(t *testing.T) {
	for _, most := range []int{len(samples.OfEachKind()), 2000} {
		s := samples.Store(most, samples.OfEachKind()...)
		for _, times := range []int{-1, -2, -1000, math.MinInt, 1001, 1002, 2000, 1 << 32, math.MaxInt} {
			for of := 1; of <= s.Len(); of++ {
				refused(t, "times that are none", s, chaining(s, of, 1, times), api.ErrArg)
			}
			for _, none := range samples.NoNames(s) {
				refused(t, "times that are none of a key that is no term", s, chaining(s, none, 1, times), api.ErrArg)
			}
		}
	}
}

// TestChainRefusesWhatIsNoTerm: of no times, too, where there is nothing to be put.
func TestChainRefusesWhatIsNoTerm(t *testing.T) {
	for _, s := range []*term.Store{samples.Store(0), samples.Store(5), samples.Store(len(samples.OfEachKind()), samples.OfEachKind()...), samples.Store(2000, samples.OfEachKind()...)} {
		for _, none := range samples.NoNames(s) {
			for _, times := range []int{0, 1, 2, 1000} {
				refused(t, "a key that is no term", s, chaining(s, none, 1, times), api.ErrArg)
			}
		}
	}
}

// TestChainWithoutRoomForAll: the keys ahead of the want of room stay, though the call tells none of them.
func TestChainWithoutRoomForAll(t *testing.T) {
	for times := 1; times <= 4; times++ {
		puts := []term.Term{samples.Key(1, 7), samples.Key(2, 7), samples.Key(3, 7), samples.Key(4, 7)}[:times]
		for room := range times {
			s := samples.Store(1+room, samples.Nonce(1))
			refused(t, "new keys", s, chaining(s, 1, 7, times), api.ErrBig, puts[:room]...)
			refused(t, "new keys again", s, chaining(s, 1, 7, times), api.ErrBig)
			refused(t, "another label", s, chaining(s, 1, 8, times), api.ErrBig)
			refused(t, "a key that is no term", s, chaining(s, 2+room, 7, times), api.ErrArg)
			refused(t, "times that are none", s, chaining(s, 1, 7, 1001), api.ErrArg)
			for fewer := range room + 1 {
				is(t, "of as many times as there are keys", chained(t, s, 1, 7, fewer), 1+fewer)
			}
		}
		s := samples.Store(1+times, samples.Nonce(1))
		is(t, "just room for all", chained(t, s, 1, 7, times), 1+times)
	}
	s := samples.Store(1000, samples.Nonce(1))
	var keys []term.Term
	for of := 1; of < 1000; of++ {
		keys = append(keys, samples.Key(of, 7))
	}
	refused(t, "1000 times with room for one less", s, chaining(s, 1, 7, 1000), api.ErrBig, keys...)
}

// TestChainOfNoTimesNeedsNoRoom: it is the key itself.
func TestChainOfNoTimesNeedsNoRoom(t *testing.T) {
	l := samples.OfEachKind()
	s := samples.Store(len(l), l...)
	for of := 1; of <= len(l); of++ {
		is(t, "of no times", chained(t, s, of, 1, 0), of)
		if of != term.Nonce {
			refused(t, "of one", s, chaining(s, of, 9, 1), api.ErrBig)
		}
	}
	is(t, "of one that is there", chained(t, s, term.Nonce, 9, 1), term.Key)
}

// TestChainWhereSomeIsThere: the keys that are there have their own names, and the rest comes behind.
func TestChainWhereSomeIsThere(t *testing.T) {
	for there := range 6 {
		s := samples.Store(20, samples.Nonce(1))
		chained(t, s, 1, 3, there)
		// Other labels' keys stand between, and are no part of it.
		other := chained(t, s, 1, 4, 2)
		want := 1 + 5
		if there < 5 {
			want = other + 5 - there
		}
		is(t, "the last key", chained(t, s, 1, 3, 5), want)
		is(t, "how many terms there are", s.Len(), 1+5+2)
	}
}

// TestChainIsNotMixed: its keys are derived with its own label, one of the other, not all of the first one.
func TestChainIsNotMixed(t *testing.T) {
	s := samples.Store(20, samples.Nonce(1))
	is(t, "with the label 1", chained(t, s, 1, 1, 2), 3)
	is(t, "with the label 2", chained(t, s, 1, 2, 2), 5)
	is(t, "with the label 2 behind that of 1", chained(t, s, 3, 2, 1), 6)
	is(t, "with the label 1 behind that of 2", chained(t, s, 5, 1, 1), 7)
}

// P6.4

// TestUnlikeOnesHaveUnlikeKeys: no two keys, labels, or terms that are mixed in have one key.
func TestUnlikeOnesHaveUnlikeKeys(t *testing.T) {
	const terms = 6
	s := samples.Store(1000)
	for i := range terms {
		if _, err := s.Put(samples.Nonce(uint64(i))); err != api.OK {
			t.Fatal(err)
		}
	}
	seen := map[int]bool{}
	count := 0
	for a := 1; a <= terms; a++ {
		for b := 1; b <= terms; b++ {
			first, second := mixed(t, s, a, b)
			seen[first], seen[second] = true, true
			count += 2
		}
		for _, label := range samples.Numbers() {
			seen[derived(t, s, a, label)] = true
			count++
			for times := 2; times <= 5; times++ {
				seen[chained(t, s, a, label, times)] = true
				count++
			}
		}
	}
	if len(seen) != count {
		t.Errorf("%d unlike ones have %d keys", count, len(seen))
	}
}

// TestChainBehindAnother: of m and n times, it is one of n times behind one of m, whichever is reckoned first.
func TestChainBehindAnother(t *testing.T) {
	for seed := range int64(20) {
		r := rand.New(rand.NewSource(seed))
		s := samples.Store(5000, samples.OfEachKind()...)
		of, label := 1+r.Intn(s.Len()), samples.Numbers()[r.Intn(len(samples.Numbers()))]
		m := r.Intn(1001)
		n := r.Intn(1001 - m)
		if seed%2 == 0 {
			whole := chained(t, s, of, label, m+n)
			is(t, "one behind another", chained(t, s, chained(t, s, of, label, m), label, n), whole)
			continue
		}
		behind := chained(t, s, chained(t, s, of, label, m), label, n)
		is(t, "the whole", chained(t, s, of, label, m+n), behind)
	}
}

// TestChainsBehindEachOther: a chain may go on beyond 1000 times, by one behind another, and is derived one by one.
func TestChainsBehindEachOther(t *testing.T) {
	s := samples.Store(2001, samples.Nonce(1))
	is(t, "1000 times", chained(t, s, 1, 0, 1000), 1001)
	is(t, "1000 times behind 1000", chained(t, s, 1001, 0, 1000), 2001)
	refused(t, "no room for one more", s, chaining(s, 2001, 0, 1), api.ErrBig)
	last := 1
	for range 2000 {
		last = derived(t, s, last, 0)
	}
	is(t, "one by one", last, 2001)
}

// TestWhatIsToCome: names that are to come are none yet, and are what comes then.
func TestWhatIsToCome(t *testing.T) {
	s := samples.Store(20, samples.Nonce(1))
	refused(t, "a hash with itself", s, hashing(s, 1, 2), api.ErrArg)
	refused(t, "a key of itself", s, deriving(s, 2, 0), api.ErrArg)
	refused(t, "keys that come of their own hash", s, mixing(s, 2, 1), api.ErrArg)
	refused(t, "a chain from its own key on", s, chaining(s, 2, 0, 1), api.ErrArg)
	is(t, "a key", derived(t, s, 1, 0), 2)
	is(t, "a hash with it", hashed(t, s, 1, 2), 3)
	first, _ := mixed(t, s, 2, 1)
	is(t, "a first key", first, 5)
	is(t, "a chain from the key on", chained(t, s, 2, 0, 1), 7)
}

// TestCopiesOfAStoreDeriveOnTheirOwn: what is derived in one of them the other one has not (R7).
func TestCopiesOfAStoreDeriveOnTheirOwn(t *testing.T) {
	s := samples.Store(20, samples.Nonce(1))
	c := *s
	is(t, "the original's chain", chained(t, s, 1, 0, 3), 4)
	refused(t, "a key of the original alone", &c, chaining(&c, 4, 0, 0), api.ErrArg)
	is(t, "the copy's chain", chained(t, &c, 1, 5, 3), 4)
	first, second := mixed(t, &c, 1, 4)
	is(t, "the copy's first key", first, 6)
	is(t, "the copy's second key", second, 7)
	is(t, "how many the original has", s.Len(), 4)
	is(t, "the original's chain again", chained(t, s, 1, 0, 3), 4)
}
