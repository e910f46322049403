package chain

import (
	"math"
	"math/big"
	"math/rand"
	"slices"
	"testing"

	"sough/api"
	"sough/know"
	"sough/samples"
	"sough/term"
)

// told is what a call tells: a chain, one key, a list of keys, an error; what a call has none of is zero.
type told struct {
	chain Chain
	key   int
	keys  []int
	err   api.Errno
}

func (x told) same(y told) bool {
	return x.chain == y.chain && x.key == y.key && slices.Equal(x.keys, y.keys) && x.err == y.err
}

// call is one of the package's calls.
type call func() told

func sealing(s *term.Store, c Chain) call {
	return func() told {
		key, err := c.Seal(s)
		return told{key: key, err: err}
	}
}

func following(s *term.Store, c Chain) call {
	return func() told {
		next, err := c.Next(s)
		return told{chain: next, err: err}
	}
}

func going(s *term.Store, c Chain, epoch int) call {
	return func() told {
		last, keys, err := c.To(s, epoch)
		return told{chain: last, keys: keys, err: err}
	}
}

// answers looks whether a call answers just this, and leaves the store with these terms.
func answers(t *testing.T, why string, s *term.Store, c call, want told, after []term.Term) {
	t.Helper()
	if got := c(); !got.same(want) {
		t.Errorf("%s: told is %+v, not %+v", why, got, want)
	}
	if left := samples.All(s); !slices.Equal(left, after) {
		t.Errorf("%s: the store has %+v, not %+v", why, left, after)
	}
}

// refused looks whether a call is refused with this error, and puts these terms alone.
func refused(t *testing.T, why string, s *term.Store, c call, want api.Errno, stays ...term.Term) {
	t.Helper()
	answers(t, why, s, c, told{err: want}, append(samples.All(s), stays...))
}

// sealed is what Seal tells of a key that is a term; it puts nothing but that.
func sealed(t *testing.T, s *term.Store, c Chain) int {
	t.Helper()
	after, key := samples.With(samples.All(s), samples.Key(c.Key, 1))
	answers(t, "an epoch's key", s, sealing(s, c), told{key: key}, after)
	return key
}

// followed is what Next tells of a key that is a term, and an epoch that has one behind it; it puts nothing but the next key.
func followed(t *testing.T, s *term.Store, c Chain) Chain {
	t.Helper()
	after, key := samples.With(samples.All(s), samples.Key(c.Key, 2))
	want := Chain{key, c.Epoch + 1}
	answers(t, "the next chain", s, following(s, c), told{chain: want}, after)
	return want
}

// gone is what To tells of a key that is a term, and two epochs that there are; of each epoch it puts its key, and then the next chain's.
func gone(t *testing.T, s *term.Store, c Chain, epoch int) (Chain, []int) {
	t.Helper()
	after, want := samples.All(s), told{chain: c}
	for want.chain.Epoch < epoch {
		var key, next int
		after, key = samples.With(after, samples.Key(want.chain.Key, 1))
		after, next = samples.With(after, samples.Key(want.chain.Key, 2))
		want.chain, want.keys = Chain{next, want.chain.Epoch + 1}, append(want.keys, key)
	}
	answers(t, "a later chain", s, going(s, c, epoch), want, after)
	return want.chain, want.keys
}

// is looks whether something is what is due.
func is[T comparable](t *testing.T, why string, got, want T) {
	t.Helper()
	if got != want {
		t.Errorf("%s is %+v, not %+v", why, got, want)
	}
}

// are looks whether keys are those that are due.
func are(t *testing.T, why string, got []int, want ...int) {
	t.Helper()
	if !slices.Equal(got, want) {
		t.Errorf("%s are %v, not %v", why, got, want)
	}
}

// before are epochs with one behind them.
func before() []int { return []int{0, 1, 2, 3, 255, 256, 500, 995, 996, 997, 998, 999} }

// without are numbers that have no epoch behind them: 1000, that is the last one, and what is no epoch.
func without() []int {
	return []int{1000, 1001, 1002, 1005, 2000, 1 << 32, 1<<32 + 1, math.MaxInt - 4, math.MaxInt - 1, math.MaxInt, -1, -2, -4, -5, -1000, -1 << 32, math.MinInt + 4, math.MinInt + 1, math.MinInt}
}

// whatever are epochs, and numbers that are none.
func whatever() []int { return append(before(), without()...) }

// keysOf are the terms that a way of so many steps puts behind those of a store, from a chain of this key on, if none of them is there.
func keysOf(s *term.Store, key, steps int) []term.Term {
	var l []term.Term
	for range steps {
		l = append(l, samples.Key(key, 1), samples.Key(key, 2))
		key = s.Len() + len(l)
	}
	return l
}

// oneNonce is a store of a Nonce, its name 1, with room for so many more.
func oneNonce(room int) *term.Store { return samples.Store(1+room, samples.Nonce(1)) }

// oneNonceAnd are the term of that, and others behind it.
func oneNonceAnd(l ...term.Term) []term.Term { return append([]term.Term{samples.Nonce(1)}, l...) }

func TestExampleOfTheChapter(t *testing.T) {
	s := oneNonce(2)
	c := Chain{1, 0}
	key, err := c.Seal(s)
	is(t, "Seal", key, 2)
	is(t, "Seal's error", err, api.OK)
	next, err := c.Next(s)
	is(t, "Next", next, Chain{Key: 3, Epoch: 1})
	is(t, "Next's error", err, api.OK)
	if want := oneNonceAnd(samples.Key(1, 1), samples.Key(1, 2)); !slices.Equal(samples.All(s), want) {
		t.Errorf("the store has %+v, not %+v", samples.All(s), want)
	}
}

// P15.1

// sizes are those of stores that have room for one term more of each one of OfEachKind, just that, or more.
func sizes() []int { return []int{2 * len(samples.OfEachKind()), 40, api.MaxTerms} }

// TestSealOfAllKinds: every term may be a chain's key, in whatever epoch, and be that in several.
func TestSealOfAllKinds(t *testing.T) {
	kinds := len(samples.OfEachKind())
	for _, epoch := range whatever() {
		for _, most := range sizes() {
			s := samples.Store(most, samples.OfEachKind()...)
			for name := 1; name <= kinds; name++ {
				key := sealed(t, s, Chain{name, epoch})
				is(t, "an epoch's key", key, kinds+name)
				is(t, "the same epoch's key", sealed(t, s, Chain{name, epoch}), key)
				is(t, "another epoch's key of the same chain's key", sealed(t, s, Chain{name, 7}), key)
			}
		}
	}
}

func TestNextOfAllKinds(t *testing.T) {
	kinds := len(samples.OfEachKind())
	for _, epoch := range before() {
		for _, most := range sizes() {
			s := samples.Store(most, samples.OfEachKind()...)
			for name := 1; name <= kinds; name++ {
				next := followed(t, s, Chain{name, epoch})
				is(t, "the next chain", next, Chain{kinds + name, epoch + 1})
				is(t, "the same chain", followed(t, s, Chain{name, epoch}), next)
				is(t, "the next chain of the same key in another epoch", followed(t, s, Chain{name, 7}), Chain{next.Key, 8})
			}
		}
	}
}

// TestNextRefusesEpochs: of which there is none behind; whatever the key is, and whatever room there is.
func TestNextRefusesEpochs(t *testing.T) {
	for _, s := range append(samples.FullAndRoomy(), samples.Store(0), samples.Store(5)) {
		for _, epoch := range without() {
			for name := 1; name <= s.Len(); name++ {
				refused(t, "an epoch with none behind it", s, following(s, Chain{name, epoch}), api.ErrLimit)
			}
			for _, none := range samples.NoNames(s) {
				refused(t, "such an epoch, of a key that is no term", s, following(s, Chain{none, epoch}), api.ErrLimit)
			}
		}
	}
}

// TestNextUpToTheLastEpoch: 1000 times from the epoch 0 on, and then no more.
func TestNextUpToTheLastEpoch(t *testing.T) {
	s := oneNonce(1010)
	c := Chain{1, 0}
	for epoch := range 1000 {
		c = followed(t, s, c)
		is(t, "the next chain", c, Chain{2 + epoch, 1 + epoch})
	}
	for range 2 {
		refused(t, "behind the last epoch", s, following(s, c), api.ErrLimit)
	}
	is(t, "the last epoch's key", sealed(t, s, c), 1002)
}

// TestKeysThatAreNone: ahead of any want of room, and with nothing put; Seal asks nothing of the epoch.
func TestKeysThatAreNone(t *testing.T) {
	for _, s := range append(samples.FullAndRoomy(), samples.Store(0), samples.Store(5)) {
		for _, none := range samples.NoNames(s) {
			for _, epoch := range whatever() {
				refused(t, "Seal of a key that is no term", s, sealing(s, Chain{none, epoch}), api.ErrArg)
			}
			for _, epoch := range before() {
				refused(t, "Next of a key that is no term", s, following(s, Chain{none, epoch}), api.ErrArg)
			}
		}
	}
}

// TestSealAndNextWithoutRoom: nothing is put, and what is there needs no room.
func TestSealAndNextWithoutRoom(t *testing.T) {
	s := samples.FullAndRoomy()[0]
	for name := 1; name <= s.Len(); name++ {
		for _, epoch := range whatever() {
			refused(t, "Seal", s, sealing(s, Chain{name, epoch}), api.ErrBig)
		}
		for _, epoch := range before() {
			refused(t, "Next", s, following(s, Chain{name, epoch}), api.ErrBig)
		}
	}
	s = samples.Store(3, oneNonceAnd(samples.Key(1, 1), samples.Key(2, 2))...)
	is(t, "the epoch's key that is there", sealed(t, s, Chain{1, 5}), 2)
	refused(t, "the next chain's key", s, following(s, Chain{1, 5}), api.ErrBig)
	is(t, "the next chain whose key is there", followed(t, s, Chain{2, 5}), Chain{3, 6})
	refused(t, "the epoch's key", s, sealing(s, Chain{2, 5}), api.ErrBig)
}

// TestSealAndNextAmongOtherLabels: each has its own one, and takes no other key for it.
func TestSealAndNextAmongOtherLabels(t *testing.T) {
	var there []term.Term
	for _, label := range samples.Numbers() {
		if label != 1 && label != 2 {
			there = append(there, samples.Key(1, label))
		}
	}
	s := samples.Store(20, oneNonceAnd(there...)...)
	first := s.Len() + 1
	is(t, "the next chain", followed(t, s, Chain{1, 0}), Chain{first, 1})
	is(t, "the epoch's key", sealed(t, s, Chain{1, 0}), first+1)
	is(t, "the next chain of the epoch's key", followed(t, s, Chain{first + 1, 0}), Chain{first + 2, 1})
	is(t, "the epoch's key of the next chain", sealed(t, s, Chain{first, 1}), first+3)
}

// P15.2

// TestToOfTheEpochItself: the chain itself, whatever it is, and nothing is asked of its key or of the room.
func TestToOfTheEpochItself(t *testing.T) {
	for _, s := range append(samples.FullAndRoomy(), samples.Store(0), samples.Store(5)) {
		for _, epoch := range whatever() {
			for _, key := range append(samples.NoNames(s), 1, 2, s.Len()) {
				answers(t, "of the epoch itself", s, going(s, Chain{key, epoch}, epoch), told{chain: Chain{key, epoch}}, samples.All(s))
			}
		}
	}
}

// TestToOfEpochsAbove: of each of the four above; the keys are those of the epochs that are left, in order.
func TestToOfEpochsAbove(t *testing.T) {
	for _, epoch := range []int{0, 1, 2, 255, 500, 995, 996} {
		for far, want := range []told{
			{chain: Chain{1, epoch}},
			{chain: Chain{3, epoch + 1}, keys: []int{2}},
			{chain: Chain{5, epoch + 2}, keys: []int{2, 4}},
			{chain: Chain{7, epoch + 3}, keys: []int{2, 4, 6}},
			{chain: Chain{9, epoch + 4}, keys: []int{2, 4, 6, 8}},
		} {
			s := oneNonce(20)
			after := oneNonceAnd(samples.Key(1, 1), samples.Key(1, 2), samples.Key(3, 1), samples.Key(3, 2), samples.Key(5, 1), samples.Key(5, 2), samples.Key(7, 1), samples.Key(7, 2))[:1+2*far]
			for range 2 {
				answers(t, "a later chain", s, going(s, Chain{1, epoch}, epoch+far), want, after)
			}
		}
	}
}

func TestToOfAllKinds(t *testing.T) {
	for name := 1; name <= len(samples.OfEachKind()); name++ {
		for far := range 5 {
			s := samples.Store(20, samples.OfEachKind()...)
			last, keys := gone(t, s, Chain{name, 3}, 3+far)
			again, keysAgain := gone(t, s, Chain{name, 3}, 3+far)
			is(t, "the same chain", again, last)
			are(t, "the same keys", keysAgain, keys...)
		}
	}
}

// TestToRefusesEpochsBelow: ahead of all else.
func TestToRefusesEpochsBelow(t *testing.T) {
	for _, s := range append(samples.FullAndRoomy(), samples.Store(0), samples.Store(5)) {
		for _, epoch := range whatever() {
			for _, below := range append(whatever(), epoch-1, epoch-2, epoch-4, epoch-5) {
				if below >= epoch {
					continue
				}
				for _, key := range append(samples.NoNames(s), 1, s.Len()) {
					refused(t, "an epoch below", s, going(s, Chain{key, epoch}, below), api.ErrOld)
				}
			}
		}
	}
}

// TestToRefusesEpochsFarAbove: ahead of what Seal and Next would tell, and with nothing put; also where what lies between is no int.
func TestToRefusesEpochsFarAbove(t *testing.T) {
	for _, s := range append(samples.FullAndRoomy(), samples.Store(0), samples.Store(5)) {
		for _, x := range [][2]int{
			{0, 5}, {0, 6}, {0, 8}, {0, 1000}, {0, 1001}, {0, 1 << 32}, {0, 1<<32 + 1}, {0, math.MaxInt - 1}, {0, math.MaxInt}, {1, 6}, {1, math.MaxInt},
			{500, 505}, {995, 1000}, {996, 1001}, {999, 1004}, {1000, 1005}, {1001, 1006}, {1 << 32, 1 << 33}, {math.MaxInt - 5, math.MaxInt}, {math.MaxInt - 6, math.MaxInt - 1},
			{-1, 4}, {-1, 5}, {-5, 0}, {-6, 0}, {-10, -5}, {-1, math.MaxInt - 1}, {-1, math.MaxInt}, {-2, math.MaxInt}, {-3, math.MaxInt}, {-4, math.MaxInt}, {-5, math.MaxInt}, {-6, math.MaxInt},
			{math.MinInt, math.MinInt + 5}, {math.MinInt, -1}, {math.MinInt, 0}, {math.MinInt, 1}, {math.MinInt, 1000}, {math.MinInt, math.MaxInt - 1}, {math.MinInt, math.MaxInt}, {math.MinInt + 1, math.MaxInt}, {math.MinInt + 4, math.MaxInt}, {math.MinInt + 1, 0}, {math.MinInt + 1, 1}, {math.MinInt + 4, 4}, {math.MinInt + 5, 4}, {-1 << 62, 1 << 62}, {-1<<62 - 1, 1 << 62},
		} {
			for _, key := range append(samples.NoNames(s), 1, s.Len()) {
				refused(t, "an epoch far above", s, going(s, Chain{key, x[0]}, x[1]), api.ErrLimit)
			}
		}
	}
}

// TestToOfAKeyThatIsNone: Seal goes first, so that it is told ahead of an epoch that has none behind it, and of a want of room.
func TestToOfAKeyThatIsNone(t *testing.T) {
	for _, s := range append(samples.FullAndRoomy(), samples.Store(0), samples.Store(5)) {
		for _, none := range samples.NoNames(s) {
			for _, epoch := range whatever() {
				for far := 1; far <= 4 && epoch <= math.MaxInt-far; far++ {
					refused(t, "a key that is no term", s, going(s, Chain{none, epoch}, epoch+far), api.ErrArg)
				}
			}
		}
	}
}

// TestToAcrossTheLastEpoch: what Seal and Next put up to the epoch 1000 stays, and the key of that one too, as Seal goes ahead of the Next that is refused.
func TestToAcrossTheLastEpoch(t *testing.T) {
	for _, epoch := range []int{997, 998, 999, 1000} {
		for to := 1001; to <= epoch+4; to++ {
			s := oneNonce(20)
			steps := 1000 - epoch
			puts := keysOf(s, 1, steps+1)[:2*steps+1]
			refused(t, "across the last epoch", s, going(s, Chain{1, epoch}, to), api.ErrLimit, puts...)
			refused(t, "across the last epoch again", s, going(s, Chain{1, epoch}, to), api.ErrLimit)
			last, _ := gone(t, s, Chain{1, epoch}, 1000)
			is(t, "the chain of the last epoch", last, Chain{1 + 2*steps, 1000})
			is(t, "its key, that stays", sealed(t, s, last), 2+2*steps)
		}
	}
	s := oneNonce(20)
	refused(t, "from 998 to 1001", s, going(s, Chain{1, 998}, 1001), api.ErrLimit, samples.Key(1, 1), samples.Key(1, 2), samples.Key(3, 1), samples.Key(3, 2), samples.Key(5, 1))
}

// TestToFromWhatIsNoEpoch: the first key is put, and stays, and Next is refused.
func TestToFromWhatIsNoEpoch(t *testing.T) {
	for _, epoch := range without() {
		for far := 1; far <= 4 && epoch <= math.MaxInt-far; far++ {
			s := oneNonce(20)
			refused(t, "from what is no epoch", s, going(s, Chain{1, epoch}, epoch+far), api.ErrLimit, samples.Key(1, 1))
			refused(t, "from what is no epoch again", s, going(s, Chain{1, epoch}, epoch+far), api.ErrLimit)
			s = oneNonce(0)
			refused(t, "from what is no epoch without room", s, going(s, Chain{1, epoch}, epoch+far), api.ErrBig)
		}
	}
}

// TestToWithoutRoomForAll: what was put ahead of the want of room stays, though the call tells none of it; a second time there is no more.
func TestToWithoutRoomForAll(t *testing.T) {
	for far := 1; far <= 4; far++ {
		for room := range 2 * far {
			s := oneNonce(room)
			puts := keysOf(s, 1, far)
			refused(t, "new keys", s, going(s, Chain{1, 3}, 3+far), api.ErrBig, puts[:room]...)
			refused(t, "new keys again", s, going(s, Chain{1, 3}, 3+far), api.ErrBig)
			refused(t, "from a chain that there is not", s, going(s, Chain{2 + room, 3}, 3+far), api.ErrArg)
			refused(t, "an epoch far above", s, going(s, Chain{1, 3}, 8), api.ErrLimit)
			refused(t, "an epoch below", s, going(s, Chain{1, 3}, 2), api.ErrOld)
			last, _ := gone(t, s, Chain{1, 3}, 3+room/2)
			is(t, "the chain up to which there was room", last, Chain{1 + room/2*2, 3 + room/2})
		}
		s := oneNonce(2 * far)
		for range 2 {
			last, _ := gone(t, s, Chain{1, 3}, 3+far)
			is(t, "just room for all", last, Chain{1 + 2*far, 3 + far})
		}
	}
}

// TestToAcrossTheLastEpochWithoutRoom: which of both comes first is told.
func TestToAcrossTheLastEpochWithoutRoom(t *testing.T) {
	puts := []term.Term{samples.Key(1, 1), samples.Key(1, 2), samples.Key(3, 1)}
	for room, want := range []api.Errno{api.ErrBig, api.ErrBig, api.ErrBig, api.ErrLimit} {
		s := oneNonce(room)
		refused(t, "from 999 to 1001", s, going(s, Chain{1, 999}, 1001), want, puts[:room]...)
	}
	s := oneNonce(2)
	last, keys := gone(t, s, Chain{1, 999}, 1000)
	is(t, "the last chain", last, Chain{3, 1000})
	are(t, "the keys ahead of it", keys, 2)
}

// TestToWhereSomeIsThere: what is there has its own name, needs no room, and is not put again; the rest comes behind, in order.
func TestToWhereSomeIsThere(t *testing.T) {
	for _, x := range []struct {
		why   string
		there []term.Term
		last  int
		keys  []int
	}{
		{"nothing", nil, 5, []int{2, 4}},
		{"the first key", []term.Term{samples.Key(1, 1)}, 5, []int{2, 4}},
		{"the next chain", []term.Term{samples.Key(1, 2)}, 5, []int{3, 4}},
		{"both, the next chain first", []term.Term{samples.Key(1, 2), samples.Key(1, 1)}, 5, []int{3, 4}},
		{"all chains", []term.Term{samples.Key(1, 2), samples.Key(2, 2)}, 3, []int{4, 5}},
		{"all keys and chains but the first key", []term.Term{samples.Key(1, 2), samples.Key(2, 2), samples.Key(2, 1)}, 3, []int{5, 4}},
		{"all", []term.Term{samples.Key(1, 2), samples.Key(2, 2), samples.Key(2, 1), samples.Key(1, 1)}, 3, []int{5, 4}},
	} {
		s := samples.Store(5, oneNonceAnd(x.there...)...)
		for range 2 {
			last, keys := gone(t, s, Chain{1, 0}, 2)
			is(t, "the last chain where there is "+x.why, last, Chain{x.last, 2})
			are(t, "the keys where there is "+x.why, keys, x.keys...)
		}
	}
	s := samples.Store(4, oneNonceAnd(samples.Key(1, 2), samples.Key(2, 2))...)
	refused(t, "no room for the second key", s, going(s, Chain{1, 0}, 2), api.ErrBig, samples.Key(1, 1))
	s = samples.Store(4, oneNonceAnd(samples.Key(1, 2), samples.Key(2, 1))...)
	refused(t, "no room for the last chain", s, going(s, Chain{1, 0}, 2), api.ErrBig, samples.Key(1, 1))
}

// The promises' words, for all calls at once

// ledger is a store's terms, and how many it may have: of these it is reckoned by the promises' words what a call tells, and leaves.
type ledger struct {
	terms []term.Term
	most  int
}

func (l *ledger) derive(of int, label uint64) (int, api.Errno) {
	if of < 1 || of > len(l.terms) {
		return 0, api.ErrArg
	}
	after, name := samples.With(l.terms, samples.Key(of, label))
	if len(after) > l.most {
		return 0, api.ErrBig
	}
	l.terms = after
	return name, api.OK
}

func (l *ledger) seal(c Chain) told {
	key, err := l.derive(c.Key, 1)
	return told{key: key, err: err}
}

func (l *ledger) next(c Chain) told {
	if c.Epoch < 0 || c.Epoch > 999 {
		return told{err: api.ErrLimit}
	}
	key, err := l.derive(c.Key, 2)
	if err != api.OK {
		return told{err: err}
	}
	return told{chain: Chain{key, c.Epoch + 1}}
}

func (l *ledger) to(c Chain, epoch int) told {
	far := new(big.Int).Sub(big.NewInt(int64(epoch)), big.NewInt(int64(c.Epoch)))
	if far.Sign() < 0 {
		return told{err: api.ErrOld}
	}
	if far.Cmp(big.NewInt(4)) > 0 {
		return told{err: api.ErrLimit}
	}
	all := told{chain: c}
	for range far.Int64() {
		key := l.seal(all.chain)
		if key.err != api.OK {
			return key
		}
		next := l.next(all.chain)
		if next.err != api.OK {
			return next
		}
		all = told{chain: next.chain, keys: append(all.keys, key.key)}
	}
	return all
}

// near are numbers near a number, and others, that a chain of that one may be asked to go to.
func near(epoch int) []int {
	l := []int{math.MinInt, -1, 0, 1, 999, 1000, 1001, math.MaxInt}
	for far := -2; far <= 6; far++ {
		l = append(l, epoch+far)
	}
	return append(l, epoch+1<<32, epoch+math.MinInt, epoch+math.MinInt+2)
}

// TestAllCallsByThePromisesWords: of keys, epochs, stores and rooms of all sorts.
func TestAllCallsByThePromisesWords(t *testing.T) {
	for _, there := range [][]term.Term{
		nil,
		samples.OfEachKind(),
		oneNonceAnd(samples.Key(1, 2)),
		oneNonceAnd(samples.Key(1, 1), samples.Key(1, 2), samples.Key(2, 2)),
		oneNonceAnd(samples.Key(1, 2), samples.Key(2, 2), samples.Key(3, 1), samples.Key(2, 1)),
	} {
		for room := range 10 {
			most := len(there) + room
			s := samples.Store(most, there...)
			for _, key := range append(samples.NoNames(s), 1, 2, 3, 9) {
				for _, epoch := range []int{math.MinInt, -4, -1, 0, 1, 500, 996, 997, 998, 999, 1000, 1001, math.MaxInt - 3, math.MaxInt} {
					allByTheWords(t, there, most, Chain{key, epoch})
				}
			}
		}
	}
}

// allByTheWords tries all calls of one chain, each in a store of its own.
func allByTheWords(t *testing.T, there []term.Term, most int, c Chain) {
	t.Helper()
	try := func(why string, of func(s *term.Store) call, want func(l *ledger) told) {
		t.Helper()
		s, l := samples.Store(most, there...), &ledger{there, most}
		due := want(l)
		answers(t, why, s, of(s), due, l.terms)
	}
	try("Seal", func(s *term.Store) call { return sealing(s, c) }, func(l *ledger) told { return l.seal(c) })
	try("Next", func(s *term.Store) call { return following(s, c) }, func(l *ledger) told { return l.next(c) })
	for _, epoch := range near(c.Epoch) {
		try("To", func(s *term.Store) call { return going(s, c, epoch) }, func(l *ledger) told { return l.to(c, epoch) })
	}
}

// TestManyCallsInOneStore: one behind the other, in one store, by the promises' words.
func TestManyCallsInOneStore(t *testing.T) {
	for seed := range int64(40) {
		r := rand.New(rand.NewSource(seed))
		most := 11 + r.Intn(60)
		s, l := samples.Store(most, samples.OfEachKind()...), &ledger{samples.OfEachKind(), most}
		for range 200 {
			c := Chain{r.Intn(s.Len()+3) - 1, r.Intn(6)}
			if r.Intn(2) == 0 {
				c.Epoch = 995 + r.Intn(8)
			}
			switch r.Intn(3) {
			case 0:
				want := l.seal(c)
				answers(t, "Seal", s, sealing(s, c), want, l.terms)
			case 1:
				want := l.next(c)
				answers(t, "Next", s, following(s, c), want, l.terms)
			default:
				epoch := c.Epoch + r.Intn(8) - 1
				want := l.to(c, epoch)
				answers(t, "To", s, going(s, c, epoch), want, l.terms)
			}
		}
	}
}

// P15.3

// walked goes step by step, by Seal and Next: the chains, c first, and the keys of so many epochs.
func walked(t *testing.T, s *term.Store, c Chain, epochs int) ([]Chain, []int) {
	t.Helper()
	chains, keys := []Chain{c}, []int(nil)
	for range epochs {
		keys = append(keys, sealed(t, s, c))
		c = followed(t, s, c)
		chains = append(chains, c)
	}
	return chains, keys
}

// TestInOneGoOrStepByStep: whichever is done first, and however it is cut, the last chain and the keys are the same, and so is what is put.
func TestInOneGoOrStepByStep(t *testing.T) {
	for name := 1; name <= len(samples.OfEachKind()); name++ {
		for _, epoch := range []int{0, 1, 500, 995, 996} {
			for far := range 5 {
				s, apart := samples.Store(30, samples.OfEachKind()...), samples.Store(30, samples.OfEachKind()...)
				last, keys := gone(t, s, Chain{name, epoch}, epoch+far)
				for _, in := range []*term.Store{apart, s} {
					chains, single := walked(t, in, Chain{name, epoch}, far)
					is(t, "the last chain step by step", chains[far], last)
					are(t, "the keys step by step", single, keys...)
				}
				if !slices.Equal(samples.All(s), samples.All(apart)) {
					t.Errorf("in one go %+v is put, step by step %+v", samples.All(s), samples.All(apart))
				}
			}
		}
	}
}

// TestInSeveralGoes: To behind To is one To.
func TestInSeveralGoes(t *testing.T) {
	for far := range 5 {
		for part := range far + 1 {
			s, apart := oneNonce(20), oneNonce(20)
			last, keys := gone(t, s, Chain{1, 9}, 9+far)
			for _, in := range []*term.Store{apart, s} {
				between, first := gone(t, in, Chain{1, 9}, 9+part)
				end, rest := gone(t, in, between, 9+far)
				is(t, "the last chain in two goes", end, last)
				are(t, "the keys in two goes", append(first, rest...), keys...)
			}
		}
	}
}

// TestLongWays: from the epoch 0 to the last one, by goes of all sizes, it is the same as step by step.
func TestLongWays(t *testing.T) {
	chains, keys := walked(t, oneNonce(2000), Chain{1, 0}, 1000)
	for seed := range int64(5) {
		r := rand.New(rand.NewSource(seed))
		s := oneNonce(2000)
		c, all := Chain{1, 0}, []int(nil)
		for c.Epoch < 1000 {
			next, some := gone(t, s, c, min(1000, c.Epoch+r.Intn(5)))
			c, all = next, append(all, some...)
			is(t, "a chain on the way", c, chains[c.Epoch])
		}
		are(t, "the keys on the way", all, keys...)
		refused(t, "behind the last epoch", s, following(s, c), api.ErrLimit)
	}
}

// TestEachEpochHasAKeyOfItsOwn: of one chain, and each of them is unlike all its chains' keys.
func TestEachEpochHasAKeyOfItsOwn(t *testing.T) {
	s := oneNonce(2001)
	chains, keys := walked(t, s, Chain{1, 0}, 1000)
	keys = append(keys, sealed(t, s, chains[1000]))
	seen := map[int]bool{}
	for i, c := range chains {
		is(t, "a chain's epoch", c.Epoch, i)
		seen[c.Key], seen[keys[i]] = true, true
	}
	is(t, "how many keys 1001 epochs and their chains have", len(seen), 2*1001)
}

// TestChainsOfUnlikeKeysHaveUnlikeOnes: whatever kinds these are of.
func TestChainsOfUnlikeKeysHaveUnlikeOnes(t *testing.T) {
	const epochs = 8
	s := samples.Store(500, samples.OfEachKind()...)
	seen, count := map[int]bool{}, 0
	for name := 1; name <= len(samples.OfEachKind()); name++ {
		chains, keys := walked(t, s, Chain{name, 0}, epochs)
		for i, key := range keys {
			seen[key], seen[chains[i].Key] = true, true
			count += 2
		}
	}
	is(t, "how many keys they have", len(seen), count)
}

// flags are all there are.
func flags() []know.Flags {
	return []know.Flags{{}, {Dh: true}, {Kem: true}, {Dh: true, Kem: true}}
}

// made are the names of what one can make who knows some, whatever is broken.
func made(t *testing.T, s *term.Store, known ...int) [][]int {
	t.Helper()
	var l [][]int
	for _, f := range flags() {
		all, err := know.All(s, known, f)
		is(t, "the error of what can be made", err, api.OK)
		l = append(l, all)
	}
	return l
}

// from are all chains' keys and epochs' keys from an epoch on, rising.
func from(chains []Chain, keys []int, epoch int) []int {
	l := slices.Clone(keys[epoch:])
	for _, c := range chains[epoch:] {
		l = append(l, c.Key)
	}
	slices.Sort(l)
	return l
}

// TestWhoHasAChainHasAllLaterOnes: and none of the earlier ones, nor of their epochs' keys, whatever is broken.
func TestWhoHasAChainHasAllLaterOnes(t *testing.T) {
	const epochs = 12
	s := oneNonce(100)
	chains, keys := walked(t, s, Chain{1, 0}, epochs)
	for epoch := range epochs {
		for _, all := range made(t, s, chains[epoch].Key) {
			are(t, "what one can make of a chain", all, from(chains, keys, epoch)...)
		}
		for _, all := range made(t, s, keys[epoch]) {
			are(t, "what one can make of an epoch's key", all, keys[epoch])
		}
	}
	for _, all := range made(t, s) {
		are(t, "what one can make of nothing", all)
	}
}

// TestWhoHasOtherEpochsKeysToo: who has a chain, and the keys of all earlier epochs but one, has not that one, nor an earlier chain.
func TestWhoHasOtherEpochsKeysToo(t *testing.T) {
	const epochs = 8
	s := oneNonce(100)
	chains, keys := walked(t, s, Chain{1, 0}, epochs)
	for epoch := 1; epoch < epochs; epoch++ {
		for lacks := range epoch {
			others := slices.Delete(slices.Clone(keys[:epoch]), lacks, lacks+1)
			want := append(from(chains, keys, epoch), others...)
			slices.Sort(want)
			for _, all := range made(t, s, append(others, chains[epoch].Key)...) {
				are(t, "what one can make of a chain and other epochs' keys", all, want...)
			}
		}
	}
}

// TestChainsOfAllSecretsTellNoEarlierOnes: whatever kind the first key is of, and whatever else is known of what it was made of in public.
func TestChainsOfAllSecretsTellNoEarlierOnes(t *testing.T) {
	const epochs = 5
	terms := []term.Term{
		samples.Nonce(1), samples.Nonce(2), samples.Pub(1), samples.Pub(2), samples.Kpub(1), samples.Share(1, 2), samples.Box(1, 2), samples.Kem(1, 2),
		samples.Hash(6, 8), samples.Key(9, 1), samples.Seal(1, 0, 2, 1), samples.Pair(1, 2),
	}
	for _, first := range []int{1, 2, 6, 8, 9, 10, 11, 12} {
		s := samples.Store(100, terms...)
		chains, keys := walked(t, s, Chain{first, 0}, epochs)
		for epoch := 1; epoch < epochs; epoch++ {
			for _, all := range made(t, s, chains[epoch].Key) {
				are(t, "what one can make of a later chain", all, from(chains, keys, epoch)...)
			}
		}
		for _, all := range made(t, s, first) {
			for _, name := range from(chains, keys, 0) {
				is(t, "whether a later key can be made of the first one", slices.Contains(all, name), true)
			}
		}
	}
	// What is public is known, too, but nothing is broken.
	s := samples.Store(100, terms...)
	chains, keys := walked(t, s, Chain{9, 0}, epochs)
	for epoch := 1; epoch < epochs; epoch++ {
		all, err := know.All(s, []int{3, 4, 5, 7, chains[epoch].Key}, know.Flags{})
		is(t, "the error of what can be made", err, api.OK)
		are(t, "what one can make of a later chain and what is public", all, append([]int{3, 4, 5, 7}, from(chains, keys, epoch)...)...)
	}
}

// TestWhateverIsPutBetween: what a chain told it tells again, and what is told behind other terms stands for the same.
func TestWhateverIsPutBetween(t *testing.T) {
	s := oneNonce(1000)
	c := Chain{1, 0}
	key, next := sealed(t, s, c), followed(t, s, c)
	last, keys := gone(t, s, c, 4)
	for i := range uint64(100) {
		samples.Put(s, samples.Nonce(i))
		samples.Put(s, samples.Key(s.Len(), i%4))
		walked(t, s, Chain{s.Len(), 7}, 2)
		is(t, "the epoch's key", sealed(t, s, c), key)
		is(t, "the next chain", followed(t, s, c), next)
		end, same := gone(t, s, c, 4)
		is(t, "the last chain", end, last)
		are(t, "the keys", same, keys...)
	}
	other := oneNonce(1000)
	for i := range 4 {
		samples.Put(other, samples.Nonce(uint64(10+i)))
		samples.Put(other, samples.Key(1, uint64(10+i)))
		epochs := sealed(t, other, c)
		are(t, "the labels of an epoch's key", labels(other, epochs), labels(s, keys[i])...)
		samples.Put(other, samples.Hash(epochs, epochs))
		c = followed(t, other, c)
	}
	are(t, "the labels of the last chain", labels(other, c.Key), labels(s, last.Key)...)
	are(t, "the labels of the last chain", labels(s, last.Key), 2, 2, 2, 2)
	are(t, "the labels of the last key", labels(s, keys[3]), 1, 2, 2, 2)
}

// labels are those of a key, of the key of which that is derived, and so on; down to the Nonce 1, that is named 1.
func labels(s *term.Store, name int) []int {
	var l []int
	for {
		x, _ := s.Get(name)
		if x.Kind != term.Key {
			return l
		}
		l = append(l, int(x.N))
		name = x.A
	}
}

// What holds of all calls

// TestKeysAreNewMemory: what is done with a list that was told, and the room behind it, is not seen in any other one (R4).
func TestKeysAreNewMemory(t *testing.T) {
	s := oneNonce(20)
	var lists [][]int
	for range 3 {
		for far := range 5 {
			_, keys, err := Chain{1, 0}.To(s, far)
			is(t, "To's error", err, api.OK)
			lists = append(lists, keys)
		}
	}
	for i, l := range lists {
		are(t, "the keys", l, []int{2, 4, 6, 8}[:i%5]...)
		l = l[:cap(l)]
		for j := range l {
			l[j] = -1
		}
	}
	for far := range 5 {
		_, keys := gone(t, s, Chain{1, 0}, far)
		are(t, "the keys told anew", keys, []int{2, 4, 6, 8}[:far]...)
	}
}

// TestAChainStaysAsItWas: calls that are made of it, and that are refused, leave it.
func TestAChainStaysAsItWas(t *testing.T) {
	for _, epoch := range whatever() {
		for key := -1; key <= 12; key++ {
			for _, s := range samples.FullAndRoomy() {
				c, was := Chain{key, epoch}, Chain{key, epoch}
				c.Seal(s)
				is(t, "the chain behind Seal", c, was)
				c.Next(s)
				is(t, "the chain behind Next", c, was)
				for far := -1; far <= 5; far++ {
					c.To(s, epoch+far)
					is(t, "the chain behind To", c, was)
				}
			}
		}
	}
}

// TestCopiesOfAStoreGoOnTheirOwn: what is put of a chain in one of them the other one has not (R7).
func TestCopiesOfAStoreGoOnTheirOwn(t *testing.T) {
	s := oneNonce(20)
	other := *s
	last, _ := gone(t, s, Chain{1, 0}, 2)
	is(t, "the original's chain", last, Chain{5, 2})
	refused(t, "a chain of the original alone", &other, going(&other, last, 3), api.ErrArg)
	is(t, "the copy's next chain", followed(t, &other, Chain{1, 0}), Chain{2, 1})
	is(t, "the copy's epoch's key", sealed(t, &other, Chain{1, 0}), 3)
	again, keys := gone(t, s, Chain{1, 0}, 2)
	is(t, "the original's chain again", again, last)
	are(t, "the original's keys again", keys, 2, 4)
}
