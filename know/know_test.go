package know

import (
	"math/rand"
	"slices"
	"testing"

	"sough/api"
	"sough/samples"
	"sough/term"
)

// flags are all there are.
func flags() []Flags {
	return []Flags{{}, {Dh: true}, {Kem: true}, {Dh: true, Kem: true}}
}

// split are the flags with which something is broken, and those with which it is not.
func split(broken func(f Flags) bool) ([]Flags, []Flags) {
	var with, without []Flags
	for _, f := range flags() {
		if broken(f) {
			with = append(with, f)
		} else {
			without = append(without, f)
		}
	}
	return with, without
}

func byDh() ([]Flags, []Flags) { return split(func(f Flags) bool { return f.Dh }) }

func byKem() ([]Flags, []Flags) { return split(func(f Flags) bool { return f.Kem }) }

// unchanged does something with what is known, and looks whether it leaves that, the room behind it, and the store as they were.
func unchanged(t *testing.T, why string, s *term.Store, known []int, do func(known []int)) {
	t.Helper()
	before := samples.All(s)
	room := append(slices.Clone(known), 77, 78, 79)
	do(room[:len(known)])
	if !slices.Equal(room, append(slices.Clone(known), 77, 78, 79)) {
		t.Errorf("%s: of what is known, %v, and the room behind it there is %v left", why, known, room)
	}
	if after := samples.All(s); !slices.Equal(after, before) {
		t.Errorf("%s: the store has %+v, not %+v", why, after, before)
	}
}

// makes looks whether who knows some can make just these, by All and by Can of each name.
func makes(t *testing.T, why string, s *term.Store, known []int, f Flags, want []int) {
	t.Helper()
	unchanged(t, why, s, known, func(known []int) {
		t.Helper()
		if got, err := All(s, known, f); !slices.Equal(got, want) || err != api.OK {
			t.Errorf("%s: All of %v with %+v is %v, %d, not %v, of %+v", why, known, f, got, err, want, samples.All(s))
		}
		for name := 1; name <= s.Len(); name++ {
			is := slices.Contains(want, name)
			if got, err := Can(s, known, f, name); got != is || err != api.OK {
				t.Errorf("%s: Can of %v with %+v is %t, %d of %d, not %t, of %+v", why, known, f, got, err, name, is, samples.All(s))
			}
		}
	})
}

// refused looks whether All and Can, that is asked for any of these names, are refused, as something is known that is no term.
func refused(t *testing.T, why string, s *term.Store, known []int, asked ...int) {
	t.Helper()
	unchanged(t, why, s, known, func(known []int) {
		t.Helper()
		for _, f := range flags() {
			if got, err := All(s, known, f); len(got) != 0 || err != api.ErrArg {
				t.Errorf("%s: All of %v with %+v is %v, %d", why, known, f, got, err)
			}
			for _, name := range asked {
				if got, err := Can(s, known, f, name); got || err != api.ErrArg {
					t.Errorf("%s: Can of %v with %+v is %t, %d of %d", why, known, f, got, err, name)
				}
			}
		}
	})
}

// none looks whether Can is refused, as what is asked for is no term.
func none(t *testing.T, why string, s *term.Store, known []int, name int) {
	t.Helper()
	unchanged(t, why, s, known, func(known []int) {
		t.Helper()
		for _, f := range flags() {
			if got, err := Can(s, known, f, name); got || err != api.ErrNone {
				t.Errorf("%s: Can of %v with %+v is %t, %d of %d", why, known, f, got, err, name)
			}
		}
	})
}

// trial is what can be made of some terms of a store.
type trial struct {
	why         string
	known, want []int
}

// tried looks at trials of one store, with each of these flags; in small ones also where what is known comes to light late, each one of it last.
func tried(t *testing.T, l []term.Term, with []Flags, trials ...trial) {
	t.Helper()
	// There is no room left: nothing may be put.
	s := samples.Store(len(l), l...)
	for _, x := range trials {
		for _, f := range with {
			makes(t, x.why, s, x.known, f, x.want)
		}
		for last := range x.known {
			if len(l) <= 7 {
				order := slices.Concat(x.known[last+1:], x.known[:last+1])
				s, known := late(l, order)
				for _, f := range with {
					makes(t, x.why+", late", s, known, f, append(slices.Clone(x.want), names(len(l)+1, s.Len())...))
				}
			}
		}
	}
}

// late is a store in which terms come to light one behind the other: each is sealed with the next one's key. It tells what is known there ahead of them.
func late(l []term.Term, order []int) (*term.Store, []int) {
	s := samples.Store(len(l)+3*len(order)+1, l...)
	key := samples.Put(s, samples.Nonce(100))
	known := []int{key}
	for i, name := range order {
		next := samples.Put(s, samples.Nonce(uint64(101+i)))
		both := samples.Put(s, samples.Pair(name, next))
		known = append(known, samples.Put(s, samples.Seal(key, 0, key, both)))
		key = next
	}
	return s, known
}

// names are those from one to another one.
func names(from, to int) []int {
	var l []int
	for name := from; name <= to; name++ {
		l = append(l, name)
	}
	return l
}

// subsets are all sets of names up to the last one.
func subsets(last int) [][]int {
	l := [][]int{nil}
	for name := 1; name <= last; name++ {
		for _, x := range l {
			l = append(l, append(slices.Clone(x), name))
		}
	}
	return l
}

// reckoned are by the chapter's words the names of what can be made: all is gone through again and again, up to nothing is new.
func reckoned(l []term.Term, known []int, f Flags) []int {
	can := map[int]bool{}
	for _, name := range known {
		can[name] = true
	}
	for size := -1; size < len(can); {
		size = len(can)
		for i, x := range l {
			if made(l, x, can, f) {
				can[i+1] = true
			}
			if can[i+1] && x.Kind == term.Pair {
				can[x.A], can[x.B] = true, true
			}
			if can[i+1] && x.Kind == term.Seal && can[x.A] {
				can[x.C] = true
			}
		}
	}
	var all []int
	for name := range l {
		if can[name+1] {
			all = append(all, name+1)
		}
	}
	return all
}

// made tells by the chapter's words whether a term is made of others of the list.
func made(l []term.Term, x term.Term, can map[int]bool, f Flags) bool {
	has := func(x term.Term) bool { return can[slices.Index(l, x)+1] }
	a, b, c := can[x.A], can[x.B], can[x.C]
	switch x.Kind {
	case term.Text:
		return true
	case term.Pub, term.Kpub, term.Key:
		return a
	case term.Hash, term.Pair:
		return a && b
	case term.Seal:
		return a && b && c
	case term.Share:
		pubs := []bool{has(samples.Pub(x.A)), has(samples.Pub(x.B))}
		return a && b || a && pubs[1] || b && pubs[0] || f.Dh && pubs[0] && pubs[1]
	case term.Box:
		return b && a || b && has(samples.Kpub(x.A))
	case term.Kem:
		boxed := has(samples.Box(x.A, x.B))
		return b && a || b && has(samples.Kpub(x.A)) || boxed && a || boxed && f.Kem
	}
	return false
}

// asReckoned looks at all that may be known of few terms, with all flags.
func asReckoned(t *testing.T, why string, l ...term.Term) {
	t.Helper()
	for _, f := range flags() {
		var trials []trial
		for _, known := range subsets(len(l)) {
			trials = append(trials, trial{why, known, reckoned(l, known, f)})
		}
		tried(t, l, []Flags{f}, trials...)
	}
}

func TestExampleOfTheChapter(t *testing.T) {
	l := []term.Term{samples.Nonce(1), samples.Nonce(2), samples.Pub(1), samples.Pub(2), samples.Share(1, 2)}
	with, without := byDh()
	tried(t, l, without, trial{"both public keys", []int{3, 4}, []int{3, 4}})
	tried(t, l, with, trial{"both public keys, if Dh", []int{3, 4}, []int{3, 4, 5}})
	tried(t, l, flags(), trial{"a secret and the other public key", []int{1, 4}, []int{1, 3, 4, 5}})
}

// P8.1 and P8.2: what one can make, rule by rule

func TestTextsAreEverybodys(t *testing.T) {
	l := []term.Term{samples.Nonce(1), samples.Text(""), samples.Pub(1), samples.Text("ab"), samples.Seal(1, 0, 2, 1), samples.Text("\xff")}
	tried(t, l, flags(),
		trial{"nobody knows them", nil, []int{2, 4, 6}},
		trial{"somebody knows one", []int{4}, []int{2, 4, 6}},
		trial{"somebody knows something else", []int{3}, []int{2, 3, 4, 6}})
}

// TestWhatIsMadeOfTextsIsEverybodys: of each kind that is made of its parts.
func TestWhatIsMadeOfTextsIsEverybodys(t *testing.T) {
	for _, x := range []term.Term{samples.Pub(1), samples.Kpub(1), samples.Key(1, 5), samples.Hash(1, 2), samples.Pair(1, 2), samples.Seal(1, 0, 2, 1), samples.Share(1, 2), samples.Box(1, 2), samples.Kem(1, 2)} {
		l := []term.Term{samples.Text("a"), samples.Text("b"), x, samples.Nonce(1)}
		tried(t, l, flags(), trial{"nothing is known", nil, []int{1, 2, 3}})
	}
}

func TestNonces(t *testing.T) {
	l := []term.Term{samples.Nonce(1), samples.Nonce(2), samples.Nonce(3), samples.Nonce(4), samples.Text("ab"), samples.Pair(2, 5), samples.Seal(5, 0, 3, 3), samples.Hash(4, 4), samples.Pub(4)}
	tried(t, l, flags(),
		// The key of the Seal is a Text.
		trial{"one that is known", []int{1}, []int{1, 5}},
		trial{"one in a Pair", []int{6}, []int{2, 5, 6}},
		trial{"one in a Seal", []int{7}, []int{3, 5, 7}},
		trial{"one that is in neither", []int{8, 9}, []int{5, 8, 9}},
		trial{"one that is in neither, and known", []int{4}, []int{4, 5, 8, 9}},
		trial{"none at all", nil, []int{5}})
}

// TestMadeOfOnePart: of a Pub, a Kpub and a Key nobody has the term back.
func TestMadeOfOnePart(t *testing.T) {
	for _, of := range []func(name int) term.Term{samples.Pub, samples.Kpub, func(name int) term.Term { return samples.Key(name, 7) }} {
		l := []term.Term{samples.Nonce(1), samples.Nonce(2), of(1), of(2), of(3)}
		tried(t, l, flags(),
			trial{"nothing is known", nil, nil},
			trial{"the first one is known", []int{1}, []int{1, 3, 5}},
			trial{"the second one is known", []int{2}, []int{2, 4}},
			trial{"what is made of the first one is known", []int{3}, []int{3, 5}},
			trial{"what is made of that is known", []int{5}, []int{5}})
		asReckoned(t, "of one part", l...)
	}
}

func TestKeysOfAllLabels(t *testing.T) {
	l := []term.Term{samples.Nonce(1)}
	for _, label := range samples.Numbers() {
		l = append(l, samples.Key(1, label))
	}
	tried(t, l, flags(),
		trial{"the term is known", []int{1}, names(1, len(l))},
		trial{"one key is known", []int{3}, []int{3}})
}

func TestHashes(t *testing.T) {
	l := []term.Term{samples.Nonce(1), samples.Nonce(2), samples.Hash(1, 2), samples.Hash(2, 1), samples.Hash(1, 1)}
	tried(t, l, flags(),
		trial{"neither part", nil, nil},
		trial{"the first part", []int{1}, []int{1, 5}},
		trial{"the second part", []int{2}, []int{2}},
		trial{"both parts", []int{1, 2}, []int{1, 2, 3, 4, 5}},
		trial{"the Hash alone", []int{3}, []int{3}},
		trial{"the Hash and a part", []int{3, 2}, []int{2, 3}},
		trial{"that of one part twice", []int{5}, []int{5}})
	asReckoned(t, "hashes", l...)
}

func TestPairs(t *testing.T) {
	l := []term.Term{samples.Nonce(1), samples.Nonce(2), samples.Nonce(3), samples.Pair(1, 2), samples.Pair(3, 3), samples.Pair(2, 4)}
	tried(t, l, flags(),
		trial{"no part", nil, nil},
		trial{"the first part", []int{1}, []int{1}},
		trial{"the second part", []int{2}, []int{2}},
		trial{"both parts", []int{1, 2}, []int{1, 2, 4, 6}},
		trial{"the Pair has both parts", []int{4}, []int{1, 2, 4, 6}},
		trial{"one part twice", []int{3}, []int{3, 5}},
		trial{"the Pair of one part twice", []int{5}, []int{3, 5}},
		trial{"the Pair of a Pair", []int{6}, []int{1, 2, 4, 6}})
	asReckoned(t, "pairs", l...)
}

func TestSealsAreMadeOfAllTheirParts(t *testing.T) {
	l := []term.Term{samples.Nonce(1), samples.Nonce(2), samples.Nonce(3), samples.Seal(1, 5, 2, 3)}
	tried(t, l, flags(),
		trial{"no part", nil, nil},
		trial{"the key", []int{1}, []int{1}},
		trial{"what stands beside", []int{2}, []int{2}},
		trial{"what is sealed", []int{3}, []int{3}},
		trial{"all but the key", []int{2, 3}, []int{2, 3}},
		trial{"all but what stands beside", []int{1, 3}, []int{1, 3}},
		trial{"all but what is sealed", []int{1, 2}, []int{1, 2}},
		trial{"all", []int{1, 2, 3}, []int{1, 2, 3, 4}})
	asReckoned(t, "seals", l...)
}

// TestSealsAreOpenedByTheirKeys: that, and nothing else, and what is sealed alone.
func TestSealsAreOpenedByTheirKeys(t *testing.T) {
	l := []term.Term{samples.Nonce(1), samples.Nonce(2), samples.Nonce(3), samples.Nonce(4), samples.Seal(1, 5, 2, 3), samples.Pub(1)}
	tried(t, l, flags(),
		trial{"without its key", []int{5}, []int{5}},
		trial{"with its key", []int{1, 5}, []int{1, 3, 5, 6}},
		trial{"with what stands beside", []int{2, 5}, []int{2, 5}},
		trial{"with what is sealed", []int{3, 5}, []int{3, 5}},
		trial{"with another key", []int{4, 5}, []int{4, 5}},
		trial{"with the key's public key", []int{6, 5}, []int{5, 6}},
		trial{"with what stands beside, and what is sealed", []int{2, 3, 5}, []int{2, 3, 5}},
		trial{"the key without the Seal", []int{1}, []int{1, 6}})
	asReckoned(t, "one part thrice", samples.Nonce(1), samples.Seal(1, 0, 1, 1))
	asReckoned(t, "one part twice", samples.Nonce(1), samples.Nonce(2), samples.Seal(1, 0, 1, 2), samples.Seal(1, 0, 2, 1), samples.Seal(2, 0, 1, 1))
}

func TestShares(t *testing.T) {
	with, without := byDh()
	l := []term.Term{samples.Nonce(1), samples.Nonce(2), samples.Pub(1), samples.Pub(2), samples.Share(1, 2)}
	tried(t, l, flags(),
		trial{"nothing", nil, nil},
		trial{"both secrets", []int{1, 2}, []int{1, 2, 3, 4, 5}},
		trial{"the first secret", []int{1}, []int{1, 3}},
		trial{"the second secret", []int{2}, []int{2, 4}},
		trial{"the first secret and the second public key", []int{1, 4}, []int{1, 3, 4, 5}},
		trial{"the second secret and the first public key", []int{2, 3}, []int{2, 3, 4, 5}},
		trial{"the first secret and its own public key", []int{1, 3}, []int{1, 3}},
		trial{"the second secret and its own public key", []int{2, 4}, []int{2, 4}},
		trial{"the first public key", []int{3}, []int{3}},
		trial{"the second public key", []int{4}, []int{4}},
		trial{"the Share itself", []int{5}, []int{5}})
	tried(t, l, without, trial{"both public keys", []int{3, 4}, []int{3, 4}})
	tried(t, l, with, trial{"both public keys, if Dh", []int{3, 4}, []int{3, 4, 5}})
	asReckoned(t, "a Share behind its Pubs", l...)
	asReckoned(t, "a Share ahead of its Pubs", samples.Nonce(1), samples.Nonce(2), samples.Share(1, 2), samples.Pub(2), samples.Pub(1))
	asReckoned(t, "a Share between its Pubs", samples.Nonce(1), samples.Nonce(2), samples.Pub(2), samples.Share(1, 2), samples.Pub(1))
}

// TestSharesOfPubsThatAreNotThere: those alone that are in the store count.
func TestSharesOfPubsThatAreNotThere(t *testing.T) {
	l := []term.Term{samples.Nonce(1), samples.Nonce(2), samples.Share(1, 2)}
	tried(t, l, flags(),
		trial{"the first secret", []int{1}, []int{1}},
		trial{"the second secret", []int{2}, []int{2}},
		trial{"both secrets", []int{1, 2}, []int{1, 2, 3}},
		trial{"the Share itself", []int{3}, []int{3}})
	tried(t, append(slices.Clone(l), samples.Pub(1)), flags(),
		trial{"the first secret where the second Pub is not there", []int{1}, []int{1, 4}},
		trial{"the second secret where the second Pub is not there", []int{2}, []int{2}},
		trial{"the second secret and the first Pub", []int{2, 4}, []int{2, 3, 4}},
		trial{"the first Pub alone", []int{4}, []int{4}})
	tried(t, append(slices.Clone(l), samples.Pub(2)), flags(),
		trial{"the second secret where the first Pub is not there", []int{2}, []int{2, 4}},
		trial{"the first secret where the first Pub is not there", []int{1}, []int{1}},
		trial{"the first secret and the second Pub", []int{1, 4}, []int{1, 3, 4}},
		trial{"the second Pub alone", []int{4}, []int{4}})
}

// TestSharesOfOthers: a Pub of another secret, or another thing of the same one, makes none.
func TestSharesOfOthers(t *testing.T) {
	l := []term.Term{samples.Nonce(1), samples.Nonce(2), samples.Nonce(3), samples.Share(1, 2), samples.Pub(3), samples.Kpub(2), samples.Key(2, 1), samples.Kpub(1), samples.Key(1, 1)}
	tried(t, l, flags(),
		trial{"the first secret and what is no Pub of the second one", []int{1, 5, 6, 7}, []int{1, 5, 6, 7, 8, 9}},
		trial{"the second secret and what is no Pub of the first one", []int{2, 5, 8, 9}, []int{2, 5, 6, 7, 8, 9}},
		trial{"what is no Pub of either", []int{5, 6, 7, 8, 9}, []int{5, 6, 7, 8, 9}})
}

func TestSharesOfOneSecretWithItself(t *testing.T) {
	with, without := byDh()
	l := []term.Term{samples.Nonce(1), samples.Share(1, 1), samples.Pub(1)}
	tried(t, l, flags(),
		trial{"nothing", nil, nil},
		trial{"the secret", []int{1}, []int{1, 2, 3}},
		trial{"the Share itself", []int{2}, []int{2}})
	tried(t, l, without, trial{"the public key", []int{3}, []int{3}})
	tried(t, l, with, trial{"the public key, if Dh", []int{3}, []int{2, 3}})
	tried(t, l[:2], flags(), trial{"the secret, without a public key", []int{1}, []int{1, 2}})
}

func TestBoxes(t *testing.T) {
	l := []term.Term{samples.Nonce(1), samples.Nonce(2), samples.Kpub(1), samples.Box(1, 2), samples.Kpub(2), samples.Pub(1)}
	tried(t, l, flags(),
		trial{"nothing", nil, nil},
		trial{"the secret", []int{1}, []int{1, 3, 6}},
		trial{"the wrapping key", []int{3}, []int{3}},
		trial{"the secret and the wrapping key", []int{1, 3}, []int{1, 3, 6}},
		trial{"what was drawn", []int{2}, []int{2, 5}},
		trial{"what was drawn, and the secret", []int{1, 2}, []int{1, 2, 3, 4, 5, 6}},
		trial{"what was drawn, and the wrapping key", []int{2, 3}, []int{2, 3, 4, 5}},
		trial{"what was drawn, and the secret's public key", []int{2, 6}, []int{2, 5, 6}},
		trial{"the Box itself", []int{4}, []int{4}},
		trial{"the Box and the secret", []int{1, 4}, []int{1, 3, 4, 6}})
	asReckoned(t, "boxes", l...)
	asReckoned(t, "a Box ahead of its Kpub", samples.Nonce(1), samples.Nonce(2), samples.Box(1, 2), samples.Kpub(1))
	asReckoned(t, "a Box without its Kpub", samples.Nonce(1), samples.Nonce(2), samples.Box(1, 2), samples.Kpub(2))
	asReckoned(t, "a Box of one term twice", samples.Nonce(1), samples.Box(1, 1), samples.Kpub(1))
}

// TestKemsWithoutABox: they are made as a box is.
func TestKemsWithoutABox(t *testing.T) {
	l := []term.Term{samples.Nonce(1), samples.Nonce(2), samples.Kpub(1), samples.Kem(1, 2), samples.Kpub(2), samples.Pub(1)}
	tried(t, l, flags(),
		trial{"nothing", nil, nil},
		trial{"the secret", []int{1}, []int{1, 3, 6}},
		trial{"the wrapping key", []int{3}, []int{3}},
		trial{"what was drawn", []int{2}, []int{2, 5}},
		trial{"what was drawn, and the secret", []int{1, 2}, []int{1, 2, 3, 4, 5, 6}},
		trial{"what was drawn, and the wrapping key", []int{2, 3}, []int{2, 3, 4, 5}},
		trial{"what was drawn, and the secret's public key", []int{2, 6}, []int{2, 5, 6}},
		trial{"the Kem itself", []int{4}, []int{4}},
		trial{"the Kem and the secret", []int{1, 4}, []int{1, 3, 4, 6}})
	asReckoned(t, "kems", l...)
	asReckoned(t, "a Kem ahead of its Kpub", samples.Nonce(1), samples.Nonce(2), samples.Kem(1, 2), samples.Kpub(1))
	asReckoned(t, "a Kem without its Kpub", samples.Nonce(1), samples.Nonce(2), samples.Kem(1, 2), samples.Kpub(2))
	asReckoned(t, "a Kem of one term twice", samples.Nonce(1), samples.Kem(1, 1), samples.Kpub(1))
}

func TestKemsOfTheirBox(t *testing.T) {
	with, without := byKem()
	for _, l := range [][]term.Term{
		{samples.Nonce(1), samples.Nonce(2), samples.Box(1, 2), samples.Kem(1, 2)},
		{samples.Nonce(1), samples.Nonce(2), samples.Kem(1, 2), samples.Box(1, 2)},
	} {
		box, kem := 1+slices.Index(l, samples.Box(1, 2)), 1+slices.Index(l, samples.Kem(1, 2))
		tried(t, l, flags(),
			trial{"the Box and the secret", []int{1, box}, []int{1, 3, 4}},
			trial{"the secret alone", []int{1}, []int{1}},
			trial{"what was drawn alone", []int{2}, []int{2}},
			trial{"the Kem alone", []int{kem}, []int{kem}},
			trial{"the Kem and the secret", []int{1, kem}, []int{1, kem}})
		tried(t, l, without,
			trial{"the Box alone", []int{box}, []int{box}},
			trial{"the Box and what was drawn", []int{2, box}, []int{2, box}})
		tried(t, l, with,
			trial{"the Box alone, if Kem", []int{box}, []int{3, 4}},
			trial{"the Box and what was drawn, if Kem", []int{2, box}, []int{2, 3, 4}})
		asReckoned(t, "a Kem and its Box", append(l, samples.Kpub(1))...)
	}
}

// TestKemsOfAnotherBox: one of another secret, of something else that was drawn, or of both the other way round.
func TestKemsOfAnotherBox(t *testing.T) {
	l := []term.Term{samples.Nonce(1), samples.Nonce(2), samples.Nonce(3), samples.Kem(1, 2), samples.Box(3, 2), samples.Box(1, 3), samples.Box(2, 1)}
	tried(t, l, flags(),
		trial{"other boxes alone", []int{5, 6, 7}, []int{5, 6, 7}},
		trial{"other boxes and the secret", []int{1, 5, 6, 7}, []int{1, 5, 6, 7}},
		trial{"other boxes and the secret of another one", []int{3, 5, 6, 7}, []int{3, 5, 6, 7}})
	asReckoned(t, "two kems and one's Box", samples.Nonce(1), samples.Nonce(2), samples.Kem(1, 2), samples.Kem(2, 1), samples.Box(2, 1), samples.Box(1, 1))
}

// TestWhatIsBrokenIsOfItsKindAlone: Dh tells no Kem, Kem no Share.
func TestWhatIsBrokenIsOfItsKindAlone(t *testing.T) {
	l := []term.Term{samples.Nonce(1), samples.Nonce(2), samples.Pub(1), samples.Pub(2), samples.Share(1, 2), samples.Kpub(1), samples.Box(1, 2), samples.Kem(1, 2)}
	known := []int{3, 4, 6, 7}
	for _, x := range []struct {
		f    Flags
		want []int
	}{
		{Flags{}, []int{3, 4, 6, 7}},
		{Flags{Dh: true}, []int{3, 4, 5, 6, 7}},
		{Flags{Kem: true}, []int{3, 4, 6, 7, 8}},
		{Flags{Dh: true, Kem: true}, []int{3, 4, 5, 6, 7, 8}},
	} {
		tried(t, l, []Flags{x.f}, trial{"what is public", known, x.want})
	}
}

func TestOfEachKind(t *testing.T) {
	l := samples.OfEachKind()
	with, without := byKem()
	tried(t, l, flags(),
		trial{"the Nonce", []int{term.Nonce}, names(1, len(l))},
		trial{"the Pair, that has the Nonce", []int{term.Pair}, names(1, len(l))},
		trial{"nothing", nil, []int{term.Text}},
		trial{"the Pub", []int{term.Pub}, []int{term.Text, term.Pub, term.Share}},
		trial{"the Share", []int{term.Share}, []int{term.Text, term.Share}},
		trial{"the Kpub", []int{term.Kpub}, []int{term.Text, term.Kpub, term.Box, term.Kem}},
		trial{"the Kem", []int{term.Kem}, []int{term.Text, term.Kem}},
		trial{"the Hash", []int{term.Hash}, []int{term.Text, term.Hash}},
		trial{"the Key", []int{term.Key}, []int{term.Text, term.Key}},
		trial{"the Key and the Hash", []int{term.Key, term.Hash}, []int{term.Text, term.Hash, term.Key, term.Seal}},
		trial{"the Seal", []int{term.Seal}, []int{term.Text, term.Seal}})
	tried(t, l, without, trial{"the Box", []int{term.Box}, []int{term.Text, term.Box}})
	tried(t, l, with, trial{"the Box, if Kem", []int{term.Box}, []int{term.Text, term.Box, term.Kem}})
	asReckoned(t, "one of each kind", l...)
}

// Many rounds

// TestAKeyThatComesToLightLate: it opens what stands ahead of it, and behind it.
func TestAKeyThatComesToLightLate(t *testing.T) {
	ahead := []term.Term{samples.Text("ab"), samples.Nonce(1), samples.Nonce(2), samples.Seal(2, 0, 1, 3), samples.Nonce(3), samples.Seal(5, 0, 1, 2), samples.Nonce(4), samples.Seal(7, 0, 1, 5), samples.Pair(7, 1)}
	tried(t, ahead, flags(),
		trial{"the last key", []int{4, 6, 8, 9}, names(1, 9)},
		trial{"the last key known first", []int{9, 8, 6, 4}, names(1, 9)},
		trial{"no last key", []int{4, 6, 8}, []int{1, 4, 6, 8}},
		trial{"without the Seal between", []int{4, 8, 9}, []int{1, 4, 5, 7, 8, 9}})
	behind := []term.Term{samples.Text("ab"), samples.Nonce(1), samples.Nonce(2), samples.Nonce(3), samples.Nonce(4), samples.Pair(1, 2), samples.Seal(2, 0, 1, 3), samples.Seal(3, 0, 1, 4), samples.Seal(4, 0, 1, 5)}
	tried(t, behind, flags(),
		trial{"the first key", []int{6, 7, 8, 9}, names(1, 9)},
		trial{"no first key", []int{7, 8, 9}, []int{1, 7, 8, 9}},
		trial{"without the Seal between", []int{6, 7, 9}, []int{1, 2, 3, 6, 7, 9}})
}

// TestAKeyOfWhatIsShared: it is made of public keys, and opens a secret, that a box is for.
func TestAKeyOfWhatIsShared(t *testing.T) {
	l := []term.Term{samples.Nonce(1), samples.Nonce(2), samples.Nonce(3), samples.Nonce(4), samples.Text("ab"),
		samples.Kem(3, 4), samples.Key(6, 1), samples.Seal(7, 0, 5, 4),
		samples.Box(3, 4), samples.Share(1, 2), samples.Key(10, 1), samples.Seal(11, 0, 5, 3), samples.Pub(1), samples.Pub(2)}
	with, without := byDh()
	public := []int{8, 9, 12, 13, 14}
	tried(t, l, with, trial{"the secret comes to light", public, names(3, 14)})
	for _, f := range without {
		want := []int{5, 8, 9, 12, 13, 14}
		if f.Kem {
			want = []int{4, 5, 6, 7, 8, 9, 12, 13, 14}
		}
		tried(t, l, []Flags{f}, trial{"it does not", public, want})
	}
}

// chained are keys, each of which a Seal has that the one behind it opens, or, if rising, the one ahead of it; the Seals stand ahead of nothing but Seals.
func chained(count int, rising bool) []term.Term {
	var l []term.Term
	for i := range count {
		l = append(l, samples.Nonce(uint64(i)))
	}
	for name := 1; name < count; name++ {
		if rising {
			l = append(l, samples.Seal(name, 0, 1, name+1))
		} else {
			l = append(l, samples.Seal(name+1, 0, 1, name))
		}
	}
	return l
}

// TestAsManyRoundsAsThereAreKeys: one by one, each key opens the next one, up to a Seal that is not known.
func TestAsManyRoundsAsThereAreKeys(t *testing.T) {
	const count = 40
	seals := names(count+1, 2*count-1)
	rising, falling := chained(count, true), chained(count, false)
	tried(t, rising, flags(),
		trial{"the first key", append([]int{1}, seals...), names(1, 2*count-1)},
		trial{"the last key", append([]int{count}, seals...), names(count, 2*count-1)},
		trial{"no key", seals, seals})
	tried(t, falling, flags(),
		trial{"the last key", append([]int{count}, seals...), names(1, 2*count-1)},
		trial{"the first key", append([]int{1}, seals...), append([]int{1}, seals...)},
		trial{"no key", seals, seals})
	missing := slices.Delete(slices.Clone(seals), 9, 10)
	s := samples.Store(len(rising), rising...)
	known := append([]int{1}, missing...)
	makes(t, "a Seal that is not known", s, known, Flags{}, append(names(1, 10), missing...))
}

// TestRoundsOfAGreatStore: what comes of each key is looked at, not everything anew.
func TestRoundsOfAGreatStore(t *testing.T) {
	const count = 1 << 17
	seals := names(count+1, 2*count-1)
	for _, rising := range []bool{true, false} {
		first, last := count, 1
		if rising {
			first, last = 1, count
		}
		l := chained(count, rising)
		s := samples.Store(len(l), l...)
		all, err := All(s, append(slices.Clone(seals), first), Flags{})
		if len(all) != len(l) || !slices.Equal(all, names(1, len(l))) || err != api.OK {
			t.Errorf("of %d terms %d can be made, %d", len(l), len(all), err)
		}
		if can, err := Can(s, append(slices.Clone(seals), first), Flags{}, last); !can || err != api.OK {
			t.Errorf("the last key: %t, %d", can, err)
		}
		if can, err := Can(s, seals, Flags{}, last); can || err != api.OK {
			t.Errorf("the last key, without the first one: %t, %d", can, err)
		}
	}
}

// TestOneSecretOfMany: a secret of which all of a great store is made comes to light, or stays hidden.
func TestOneSecretOfMany(t *testing.T) {
	const count = 1 << 14
	s := samples.Store(1+5*count, samples.Nonce(0))
	var known, kems, shares []int
	for i := range count {
		drawn := samples.Put(s, samples.Nonce(uint64(1+i)))
		known = append(known, samples.Put(s, samples.Box(1, drawn)), samples.Put(s, samples.Pub(drawn)))
		kems = append(kems, samples.Put(s, samples.Kem(1, drawn)))
		shares = append(shares, samples.Put(s, samples.Share(1, drawn)))
	}
	for _, x := range []struct {
		why  string
		f    Flags
		want []int
		more []int
	}{
		{"nothing", Flags{Dh: true}, known, nil},
		{"what is in the boxes", Flags{Kem: true}, slices.Concat(known, kems), nil},
		{"all but what was drawn", Flags{}, slices.Concat([]int{1}, known, kems, shares), []int{1}},
	} {
		slices.Sort(x.want)
		got, err := All(s, slices.Concat(known, x.more), x.f)
		if !slices.Equal(got, x.want) || err != api.OK {
			t.Errorf("%s: %d of %d can be made, not %d, %d", x.why, len(got), s.Len(), len(x.want), err)
		}
	}
}

// The edges

func TestNoTerms(t *testing.T) {
	for _, most := range []int{0, 5} {
		s := samples.Store(most)
		for _, f := range flags() {
			makes(t, "nothing in the store", s, nil, f, nil)
			makes(t, "nothing in the store, and none known", s, []int{}, f, nil)
		}
		for _, name := range samples.NoNames(s) {
			none(t, "a name in a store of none", s, nil, name)
			refused(t, "something known of a store of none", s, []int{name}, samples.NoNames(s)...)
		}
	}
}

func TestNoneKnown(t *testing.T) {
	l := []term.Term{samples.Nonce(1), samples.Pub(1), samples.Kpub(1), samples.Hash(1, 2), samples.Share(1, 3), samples.Box(1, 2), samples.Kem(1, 2), samples.Pair(1, 4), samples.Key(1, 1), samples.Seal(9, 1, 1, 1)}
	tried(t, l, flags(), trial{"a nil list", nil, nil}, trial{"an empty one", []int{}, nil})
}

// TestEveryOrder: known in every order, once and twice, the names that are told rise, and each one is told once.
func TestEveryOrder(t *testing.T) {
	l := samples.OfEachKind()
	want := []int{term.Text, term.Pub, term.Share, term.Kpub, term.Box, term.Kem, term.Hash, term.Key, term.Seal}
	known := []int{term.Pub, term.Kpub, term.Hash, term.Key}
	var trials []trial
	samples.Orders(known, func(order []int) {
		x := slices.Clone(order)
		trials = append(trials, trial{"in some order", x, want},
			trial{"in some order, all twice", append(slices.Clone(x), x...), want},
			trial{"in some order, one twice", append(slices.Clone(x), x[2]), want},
			trial{"in some order, each twice", twice(x), want},
			trial{"in some order, with what follows", append([]int{term.Seal, term.Box}, x...), want})
	})
	tried(t, l, flags(), trials...)
	tried(t, l, flags(), trial{"one name many times", slices.Repeat([]int{term.Nonce}, 100), names(1, len(l))})
}

// twice is a list with each one twice.
func twice(l []int) []int {
	var all []int
	for _, x := range l {
		all = append(all, x, x)
	}
	return all
}

func TestWhoKnowsAll(t *testing.T) {
	l := samples.OfEachKind()
	back := names(1, len(l))
	slices.Reverse(back)
	tried(t, l, flags(),
		trial{"all, rising", names(1, len(l)), names(1, len(l))},
		trial{"all, falling", back, names(1, len(l))},
		trial{"all, twice", append(names(1, len(l)), back...), names(1, len(l))})
}

// TestKnownThatIsNoTerm: alone, ahead of others that may be, behind them, and between them.
func TestKnownThatIsNoTerm(t *testing.T) {
	l := samples.OfEachKind()
	for _, room := range []int{0, 5} {
		s := samples.Store(len(l)+room, l...)
		// Whether what is asked for is a term or not.
		asked := append(samples.NoNames(s), names(1, len(l))...)
		for _, name := range samples.NoNames(s) {
			refused(t, "alone", s, []int{name}, asked...)
			refused(t, "twice", s, []int{name, name}, asked...)
			refused(t, "ahead of others", s, []int{name, 1, 2}, asked...)
			refused(t, "behind others", s, []int{1, 2, name}, asked...)
			refused(t, "between others", s, []int{1, name, 2}, asked...)
			refused(t, "behind all others", s, append(names(1, len(l)), name), asked...)
			refused(t, "with another one", s, []int{name, 0}, asked...)
		}
	}
}

func TestAskedForWhatIsNoTerm(t *testing.T) {
	l := samples.OfEachKind()
	for _, room := range []int{0, 5} {
		s := samples.Store(len(l)+room, l...)
		for _, name := range samples.NoNames(s) {
			for _, known := range [][]int{nil, {1}, {2}, {2, 2}, {11, 10}, names(1, len(l))} {
				none(t, "a name of no term", s, known, name)
			}
		}
	}
}

// TestWhatIsToCome: names that are to come are none yet, and are what comes then.
func TestWhatIsToCome(t *testing.T) {
	s := samples.Store(9, samples.Nonce(1), samples.Nonce(2), samples.Share(1, 2))
	refused(t, "a public key that is to come", s, []int{1, 4}, 1, 3)
	none(t, "a public key that is to come", s, []int{1}, 4)
	makes(t, "a secret without the other public key", s, []int{1}, Flags{}, []int{1})
	samples.Put(s, samples.Pub(2))
	makes(t, "a secret and the other public key", s, []int{1, 4}, Flags{}, []int{1, 3, 4})
	makes(t, "the public key alone", s, []int{4}, Flags{Dh: true}, []int{4})
	samples.Put(s, samples.Pub(1))
	makes(t, "the public key and one that is not known", s, []int{4}, Flags{Dh: true}, []int{4})
	makes(t, "both public keys", s, []int{4, 5}, Flags{Dh: true}, []int{3, 4, 5})
}

// TestWhatWasAskedMakesNoDifference: neither what was known, nor what was broken in a call ahead (R5).
func TestWhatWasAskedMakesNoDifference(t *testing.T) {
	l := samples.OfEachKind()
	s := samples.Store(len(l), l...)
	for range 2 {
		makes(t, "nothing", s, nil, Flags{}, []int{term.Text})
		makes(t, "the Nonce", s, []int{term.Nonce}, Flags{Dh: true, Kem: true}, names(1, len(l)))
		refused(t, "no term", s, []int{0}, 1)
		makes(t, "the Box, if Kem", s, []int{term.Box}, Flags{Kem: true}, []int{term.Text, term.Box, term.Kem})
		makes(t, "the Box", s, []int{term.Box}, Flags{}, []int{term.Text, term.Box})
	}
}

// TestAnswersAreNewMemory: who is told names may do with them, and the room behind them, what they like (R4).
func TestAnswersAreNewMemory(t *testing.T) {
	l := samples.OfEachKind()
	s := samples.Store(len(l), l...)
	known := names(1, len(l))
	first, _ := All(s, known, Flags{})
	other, _ := All(s, known, Flags{})
	first = first[:cap(first)]
	for i := range first {
		first[i] = 99
	}
	if !slices.Equal(known, names(1, len(l))) || !slices.Equal(other, known) {
		t.Errorf("known are %v, and the other answer is %v", known, other)
	}
	makes(t, "all", s, known, Flags{}, names(1, len(l)))
}

// TestCopiesOfAStoreAreLookedAtOnTheirOwn: what is put in one of them the other one has not (R7).
func TestCopiesOfAStoreAreLookedAtOnTheirOwn(t *testing.T) {
	s := samples.Store(9, samples.Nonce(1), samples.Nonce(2), samples.Share(1, 2))
	c := *s
	samples.Put(s, samples.Pub(2))
	refused(t, "a term of the original alone", &c, []int{1, 4}, 1, 4)
	none(t, "a term of the original alone", &c, []int{1}, 4)
	samples.Put(&c, samples.Pub(1))
	makes(t, "the original", s, []int{1, 4}, Flags{}, []int{1, 3, 4})
	makes(t, "the copy by the first secret", &c, []int{1}, Flags{}, []int{1, 4})
	makes(t, "the copy by the second one", &c, []int{2, 4}, Flags{}, []int{2, 3, 4})
}

// P8.3

// drawn are terms of any kinds, mostly of few parts, so that many have to do with each other.
func drawn(r *rand.Rand, size int) []term.Term {
	l := []term.Term{samples.Nonce(0), samples.Nonce(1), samples.Nonce(2), samples.Text("ab")}
	for len(l) < size {
		part := func() int {
			if r.Intn(3) > 0 {
				return 1 + r.Intn(3)
			}
			return 1 + r.Intn(len(l))
		}
		a, b, c, n := part(), part(), part(), uint64(r.Intn(3))
		kinds := [term.Kinds]term.Term{{}, samples.Text(string(rune('a' + r.Intn(3)))), samples.Nonce(uint64(r.Intn(9))),
			samples.Pub(a), samples.Share(min(a, b), max(a, b)), samples.Kpub(a), samples.Box(a, b), samples.Kem(a, b),
			samples.Hash(a, b), samples.Key(a, n), samples.Seal(a, n, b, c), samples.Pair(a, b)}
		l, _ = samples.With(l, kinds[1+r.Intn(len(kinds)-1)])
	}
	return l
}

// someOf are some of the names of as many terms, in any order.
func someOf(r *rand.Rand, l []term.Term) []int {
	var some []int
	for range r.Intn(5) {
		some = append(some, 1+r.Intn(len(l)))
	}
	return some
}

// within tells whether all of some names are among others.
func within(some, others []int) bool {
	return !slices.ContainsFunc(some, func(name int) bool { return !slices.Contains(others, name) })
}

// worlds looks at stores of all sorts, and what may be known of them.
func worlds(look func(r *rand.Rand, s *term.Store, known []int)) {
	for seed := range int64(300) {
		r := rand.New(rand.NewSource(seed))
		l := drawn(r, 5+r.Intn(30))
		s := samples.Store(len(l), l...)
		for range 6 {
			look(r, s, someOf(r, l))
		}
	}
}

// all are the names of all that can be made, where all that is known is a term.
func all(t *testing.T, s *term.Store, known []int, f Flags) []int {
	t.Helper()
	l, err := All(s, known, f)
	if err != api.OK {
		t.Fatalf("All of %v is %v, %d", known, l, err)
	}
	return l
}

func TestStoresOfAllSorts(t *testing.T) {
	worlds(func(r *rand.Rand, s *term.Store, known []int) {
		for _, f := range flags() {
			makes(t, "of all sorts", s, known, f, reckoned(samples.All(s), known, f))
		}
	})
}

func TestWhoKnowsMoreCanMakeNoLess(t *testing.T) {
	worlds(func(r *rand.Rand, s *term.Store, known []int) {
		for _, f := range flags() {
			less := all(t, s, known, f)
			if !within(known, less) {
				t.Errorf("who knows %v can make %v alone", known, less)
			}
			more := append(slices.Clone(known), someOf(r, samples.All(s))...)
			if got := all(t, s, more, f); !within(less, got) {
				t.Errorf("who knows %v can make %v, and who knows %v can make %v, of %+v", known, less, more, got, samples.All(s))
			}
		}
	})
}

func TestWhoKnowsWhatCanBeMadeCanMakeNoMore(t *testing.T) {
	worlds(func(r *rand.Rand, s *term.Store, known []int) {
		for _, f := range flags() {
			can := all(t, s, known, f)
			if got := all(t, s, can, f); !slices.Equal(got, can) {
				t.Errorf("who knows %v can make %v, of %+v", can, got, samples.All(s))
			}
			if len(can) == 0 {
				continue
			}
			one := append(slices.Clone(known), can[r.Intn(len(can))])
			if got := all(t, s, one, f); !slices.Equal(got, can) {
				t.Errorf("who knows %v can make %v, and who knows %v can make %v, of %+v", known, can, one, got, samples.All(s))
			}
		}
	})
}

func TestWhatIsBrokenTakesNothingAway(t *testing.T) {
	worlds(func(r *rand.Rand, s *term.Store, known []int) {
		whole, dh, kem, both := all(t, s, known, Flags{}), all(t, s, known, Flags{Dh: true}), all(t, s, known, Flags{Kem: true}), all(t, s, known, Flags{Dh: true, Kem: true})
		if !within(whole, dh) || !within(whole, kem) || !within(dh, both) || !within(kem, both) {
			t.Errorf("who knows %v can make %v, with Dh %v, with Kem %v, with both %v, of %+v", known, whole, dh, kem, both, samples.All(s))
		}
	})
}

func TestNoncesThatCanNotBeMade(t *testing.T) {
	worlds(func(r *rand.Rand, s *term.Store, known []int) {
		l := samples.All(s)
		for _, f := range flags() {
			for _, name := range all(t, s, known, f) {
				within := slices.ContainsFunc(l, func(x term.Term) bool {
					return (x.Kind == term.Pair || x.Kind == term.Seal) && slices.Contains(term.Parts(x), name)
				})
				if l[name-1].Kind == term.Nonce && !within && !slices.Contains(known, name) {
					t.Errorf("who knows %v can make %d with %+v, of %+v", known, name, f, l)
				}
			}
		}
	})
}
