package term

import (
	"math"
	"math/rand"
	"slices"
	"strconv"
	"strings"
	"testing"
	"unsafe"

	"sough/api"
)

// store is a store with room for so many, in which these terms are put.
func store(t *testing.T, most int, l ...Term) *Store {
	t.Helper()
	s, err := New(most)
	if err != api.OK || s == nil {
		t.Fatalf("New(%d) = %v, %d", most, s, err)
	}
	for _, x := range l {
		put(t, s, x)
	}
	return s
}

// put puts a term that may be.
func put(t *testing.T, s *Store, x Term) int {
	t.Helper()
	name, err := s.Put(x)
	if err != api.OK {
		t.Fatalf("Put(%+v) = %d, %d", x, name, err)
	}
	return name
}

// refused puts a term that is refused, and looks whether that changed anything.
func refused(t *testing.T, why string, s *Store, x Term, want api.Errno) {
	t.Helper()
	before := all(s)
	if name, err := s.Put(x); name != 0 || err != want {
		t.Errorf("%s: Put = %d, %d, not 0, %d", why, name, err, want)
	}
	if !slices.Equal(all(s), before) {
		t.Errorf("%s: Put was refused, but changed the store", why)
	}
}

// all are a store's terms, in the order of their names.
func all(s *Store) []Term {
	var l []Term
	for name := 1; name <= s.Len(); name++ {
		x, _ := s.Get(name)
		l = append(l, x)
	}
	return l
}

// ofEachKind is a term of each kind, by rising kinds, that may all be in a store, put in this order.
func ofEachKind() []Term {
	return []Term{
		{Kind: Text, S: "ab"},
		{Kind: Nonce, N: 7},
		{Kind: Pub, A: 2},
		{Kind: Share, A: 1, B: 2},
		{Kind: Kpub, A: 2},
		{Kind: Box, A: 2, B: 1},
		{Kind: Kem, A: 2, B: 1},
		{Kind: Hash, A: 2, B: 1},
		{Kind: Key, A: 2, N: 9},
		{Kind: Seal, A: 9, N: 3, B: 8, C: 1},
		{Kind: Pair, A: 2, B: 1},
	}
}

// P2.1

func TestNewTakesRoomsWithinBounds(t *testing.T) {
	for _, most := range []int{0, 1, 2, 1 << 16, api.MaxTerms - 1, api.MaxTerms} {
		if s := store(t, most); s.Len() != 0 {
			t.Errorf("New(%d) has %d terms", most, s.Len())
		}
	}
	for _, most := range []int{-1, math.MinInt, api.MaxTerms + 1, math.MaxInt} {
		if s, err := New(most); s != nil || err != api.ErrArg {
			t.Errorf("New(%d) = %v, %d", most, s, err)
		}
	}
}

func TestLenCountsTerms(t *testing.T) {
	s := store(t, 100)
	for i, x := range ofEachKind() {
		for range 2 {
			put(t, s, x)
			if s.Len() != i+1 {
				t.Errorf("behind the kind %d Len is %d", x.Kind, s.Len())
			}
		}
		s.Put(Term{Kind: Kinds})
		if s.Len() != i+1 {
			t.Errorf("behind what was refused Len is %d, not %d", s.Len(), i+1)
		}
	}
}

func TestRoomForNone(t *testing.T) {
	s := store(t, 0)
	refused(t, "a Nonce", s, Term{Kind: Nonce}, api.ErrBig)
	refused(t, "a Text", s, Term{Kind: Text}, api.ErrBig)
	refused(t, "what may not be", s, Term{Kind: Pub, A: 1}, api.ErrArg)
}

func TestRoomForFew(t *testing.T) {
	s := store(t, 2, Term{Kind: Nonce, N: 5}, Term{Kind: Pub, A: 1})
	refused(t, "another Nonce", s, Term{Kind: Nonce, N: 6}, api.ErrBig)
	refused(t, "a term of what is there", s, Term{Kind: Hash, A: 1, B: 2}, api.ErrBig)
	refused(t, "a term of what is not there", s, Term{Kind: Hash, A: 1, B: 3}, api.ErrArg)
	refused(t, "no term", s, Term{}, api.ErrArg)
	if name := put(t, s, Term{Kind: Nonce, N: 5}); name != 1 {
		t.Errorf("the same Nonce has the name %d", name)
	}
	if name := put(t, s, Term{Kind: Pub, A: 1}); name != 2 {
		t.Errorf("the same Pub has the name %d", name)
	}
}

// TestRoomForAll fills the greatest store with a chain of terms, each of which is made of the one ahead of it twice.
func TestRoomForAll(t *testing.T) {
	s := store(t, api.MaxTerms, Term{Kind: Nonce, N: 1})
	for i := 1; i < api.MaxTerms; i++ {
		if name, err := s.Put(Term{Kind: Hash, A: i, B: i}); name != i+1 || err != api.OK {
			t.Fatalf("Put = %d, %d, not %d", name, err, i+1)
		}
	}
	if name, err := s.Put(Term{Kind: Nonce, N: 2}); name != 0 || err != api.ErrBig {
		t.Errorf("one more: Put = %d, %d", name, err)
	}
	if name, err := s.Put(Term{Kind: Hash, A: api.MaxTerms + 1}); name != 0 || err != api.ErrArg {
		t.Errorf("one more, that may not be: Put = %d, %d", name, err)
	}
	if name := put(t, s, Term{Kind: Hash, A: 77, B: 77}); name != 78 || s.Len() != api.MaxTerms {
		t.Errorf("the same one again: Put = %d, Len %d", name, s.Len())
	}
	if x, ok := s.Get(api.MaxTerms); !ok || x != (Term{Kind: Hash, A: api.MaxTerms - 1, B: api.MaxTerms - 1}) {
		t.Errorf("the last one is %+v, %t", x, ok)
	}
	for _, name := range []int{1, 2, 3, 100, api.MaxTerms} {
		if d := s.Depth(name); d != name {
			t.Errorf("Depth(%d) = %d", name, d)
		}
	}
}

// P2.2

func TestPutTellsNamesAsTheyCome(t *testing.T) {
	s := store(t, 10)
	for i, x := range []struct {
		t    Term
		want int
	}{
		{Term{Kind: Nonce, N: 5}, 1},
		{Term{Kind: Pub, A: 1}, 2},
		{Term{Kind: Nonce, N: 5}, 1},
		{Term{Kind: Share, A: 1, B: 1}, 3},
		{Term{Kind: Pub, A: 1}, 2},
		{Term{Kind: Share, A: 1, B: 1}, 3},
		{Term{Kind: Share, A: 1, B: 2}, 4},
	} {
		if name := put(t, s, x.t); name != x.want {
			t.Errorf("%d: Put(%+v) = %d, not %d", i, x.t, name, x.want)
		}
	}
}

func TestTermsOfEachKindAreGotAsTheyWerePut(t *testing.T) {
	l := ofEachKind()
	s := store(t, len(l))
	for i, x := range l {
		if name := put(t, s, x); name != i+1 {
			t.Errorf("Put(%+v) = %d, not %d", x, name, i+1)
		}
	}
	for range 2 {
		for i, x := range l {
			if got, ok := s.Get(i + 1); !ok || got != x {
				t.Errorf("Get(%d) = %+v, %t, not %+v", i+1, got, ok, x)
			}
			if name := put(t, s, x); name != i+1 {
				t.Errorf("Put(%+v) again = %d, not %d", x, name, i+1)
			}
		}
	}
}

func TestKindsAreNumbered(t *testing.T) {
	kinds := []int{Text, Nonce, Pub, Share, Kpub, Box, Kem, Hash, Key, Seal, Pair, Kinds}
	for i, kind := range kinds {
		if kind != i+1 {
			t.Errorf("the kind %d has the number %d", i+1, kind)
		}
	}
}

func TestGetOfNoName(t *testing.T) {
	for _, s := range []*Store{store(t, 0), store(t, 20), store(t, 20, ofEachKind()...), store(t, 11, ofEachKind()...)} {
		for _, name := range []int{0, -1, -11, math.MinInt, s.Len() + 1, s.Len() + 2, math.MaxInt} {
			if x, ok := s.Get(name); ok || x != (Term{}) {
				t.Errorf("of %d terms Get(%d) = %+v, %t", s.Len(), name, x, ok)
			}
		}
	}
}

func TestPutRefusesKindsThatAreNone(t *testing.T) {
	s := store(t, 20, ofEachKind()...)
	for _, kind := range []int{0, -1, math.MinInt, Kinds, Kinds + 1, math.MaxInt} {
		refused(t, "bare", s, Term{Kind: kind}, api.ErrArg)
		refused(t, "with a text", s, Term{Kind: kind, S: "ab"}, api.ErrArg)
		refused(t, "with parts", s, Term{Kind: kind, A: 1, B: 2, C: 3}, api.ErrArg)
	}
}

func TestTextsWithinBounds(t *testing.T) {
	s := store(t, 100)
	for i, x := range []string{"", "a", "\x00", "\x00\x00", "\xff\x80", strings.Repeat("a", api.MaxText), strings.Repeat("\u00e9", api.MaxText/2)} {
		if name := put(t, s, Term{Kind: Text, S: x}); name != i+1 {
			t.Errorf("the text of %d bytes has the name %d, not %d", len(x), name, i+1)
		}
	}
	// Bytes are counted, not what they spell.
	for _, x := range []string{strings.Repeat("a", api.MaxText+1), strings.Repeat("\u00e9", api.MaxText/2) + "a", strings.Repeat("a", 1<<20)} {
		refused(t, "a text that is too long", s, Term{Kind: Text, S: x}, api.ErrArg)
	}
}

// TestPutRefusesFieldsThatAKindHasNot lays into each term that may be, one by one, something in each field that its kind has not.
func TestPutRefusesFieldsThatAKindHasNot(t *testing.T) {
	l := ofEachKind()
	s := store(t, 20, l...)
	has := map[int]string{Text: "S", Nonce: "N", Pub: "A", Share: "AB", Kpub: "A", Box: "AB", Kem: "AB", Hash: "AB", Key: "AN", Seal: "ANBC", Pair: "AB"}
	lay := map[string]func(x *Term, n int){
		"S": func(x *Term, n int) { x.S = "x" },
		"N": func(x *Term, n int) { x.N = uint64(n) },
		"A": func(x *Term, n int) { x.A = n },
		"B": func(x *Term, n int) { x.B = n },
		"C": func(x *Term, n int) { x.C = n },
	}
	for _, x := range l {
		for field, f := range lay {
			if strings.Contains(has[x.Kind], field) {
				continue
			}
			for _, n := range []int{1, 5, -1, math.MaxInt} {
				y := x
				f(&y, n)
				refused(t, "the kind "+strconv.Itoa(x.Kind)+" with "+field, s, y, api.ErrArg)
			}
		}
	}
}

// TestPutRefusesPartsThatAreNotThere lays into each term that may be, one by one, what is no name for each part of it.
func TestPutRefusesPartsThatAreNotThere(t *testing.T) {
	l := ofEachKind()
	s := store(t, 20, l...)
	for _, x := range l {
		for place := range Parts(x) {
			for _, name := range []int{0, -1, math.MinInt, s.Len() + 1, s.Len() + 2, math.MaxInt} {
				y := x
				*[]*int{&y.A, &y.B, &y.C}[place] = name
				refused(t, "the kind "+strconv.Itoa(x.Kind), s, y, api.ErrArg)
			}
		}
	}
	put(t, s, Term{Kind: Hash, A: 11, B: 11})
	if name := put(t, s, Term{Kind: Hash, A: 12, B: 12}); name != 13 {
		t.Errorf("a Hash of the last name is %d", name)
	}
}

func TestPartsOfAShareAreInOrder(t *testing.T) {
	s := store(t, 20, Term{Kind: Nonce, N: 1}, Term{Kind: Nonce, N: 2})
	refused(t, "A above B", s, Term{Kind: Share, A: 2, B: 1}, api.ErrArg)
	for i, x := range []Term{{Kind: Share, A: 1, B: 2}, {Kind: Share, A: 1, B: 1}, {Kind: Share, A: 2, B: 2}} {
		if name := put(t, s, x); name != i+3 {
			t.Errorf("Put(%+v) = %d, not %d", x, name, i+3)
		}
	}
	refused(t, "A above B, where the other one is there", s, Term{Kind: Share, A: 2, B: 1}, api.ErrArg)
	for _, kind := range []int{Box, Kem, Hash, Pair} {
		put(t, s, Term{Kind: kind, A: 2, B: 1})
		put(t, s, Term{Kind: kind, A: 1, B: 2})
	}
}

// TestTermsThatDifferAreTwo: each field, and the kind, tells terms apart.
func TestTermsThatDifferAreTwo(t *testing.T) {
	s := store(t, 100, Term{Kind: Nonce, N: 1}, Term{Kind: Nonce, N: 2})
	for i, x := range []Term{
		{Kind: Nonce}, {Kind: Nonce, N: math.MaxUint64}, {Kind: Text}, {Kind: Text, S: "\x00"}, {Kind: Text, S: "a"}, {Kind: Text, S: "b"},
		{Kind: Pub, A: 1}, {Kind: Pub, A: 2}, {Kind: Kpub, A: 1}, {Kind: Kpub, A: 2},
		{Kind: Key, A: 1}, {Kind: Key, A: 1, N: 1}, {Kind: Key, A: 2}, {Kind: Key, A: 1, N: math.MaxUint64},
		{Kind: Share, A: 1, B: 2}, {Kind: Box, A: 1, B: 2}, {Kind: Kem, A: 1, B: 2}, {Kind: Hash, A: 1, B: 2}, {Kind: Pair, A: 1, B: 2},
		{Kind: Hash, A: 2, B: 1}, {Kind: Hash, A: 1, B: 1}, {Kind: Pair, A: 2, B: 1}, {Kind: Box, A: 2, B: 1}, {Kind: Kem, A: 2, B: 1},
		{Kind: Seal, A: 1, B: 1, C: 1}, {Kind: Seal, A: 2, B: 1, C: 1}, {Kind: Seal, A: 1, B: 2, C: 1}, {Kind: Seal, A: 1, B: 1, C: 2}, {Kind: Seal, A: 1, B: 1, C: 1, N: 1},
	} {
		if name := put(t, s, x); name != i+3 {
			t.Errorf("Put(%+v) = %d, not %d", x, name, i+3)
		}
	}
}

func TestATextIsNoPieceOfWhatWasHandedIn(t *testing.T) {
	long := strings.Repeat("abcdefgh", 1000)
	s := store(t, 1, Term{Kind: Text, S: long[16:24]})
	got, _ := s.Get(1)
	if got.S != "abcdefgh" || unsafe.StringData(got.S) == unsafe.StringData(long[16:]) {
		t.Errorf("the text %q is a piece of a greater one", got.S)
	}
}

// R7: a copy of a store goes its own way.

func TestCopiesGoTheirOwnWays(t *testing.T) {
	a, b, c := Term{Kind: Text, S: "a"}, Term{Kind: Text, S: "b"}, Term{Kind: Text, S: "c"}
	first := store(t, 3, a)
	second := *first
	put(t, first, b)
	third := *first
	if second.Len() != 1 || second.Depth(2) != 0 {
		t.Errorf("a copy has %d terms behind its original's Put", second.Len())
	}
	if x, ok := second.Get(2); ok || x != (Term{}) {
		t.Errorf("a copy has its original's %+v", x)
	}
	refused(t, "of what the original alone has", &second, Term{Kind: Pub, A: 2}, api.ErrArg)
	for i, x := range []Term{c, b, a} {
		if name := put(t, &second, x); name != []int{2, 3, 1}[i] {
			t.Errorf("the copy's Put(%+v) = %d", x, name)
		}
	}
	put(t, &third, Term{Kind: Pub, A: 2})
	put(t, first, Term{Kind: Pub, A: 1})
	for i, x := range []struct {
		s    *Store
		want []Term
	}{
		{first, []Term{a, b, {Kind: Pub, A: 1}}},
		{&second, []Term{a, c, b}},
		{&third, []Term{a, b, {Kind: Pub, A: 2}}},
	} {
		if got := all(x.s); !slices.Equal(got, x.want) {
			t.Errorf("%d has %+v, not %+v", i, got, x.want)
		}
		refused(t, "a fourth one", x.s, Term{Kind: Nonce}, api.ErrBig)
		checkParts(t, x.s)
	}
}

// TestCopyPutsWhatItsOriginalHas: under a name of its own, as it has not what its original put since.
func TestCopyPutsWhatItsOriginalHas(t *testing.T) {
	s := store(t, 3, Term{Kind: Nonce})
	c := *s
	put(t, s, Term{Kind: Kpub, A: 1})
	put(t, s, Term{Kind: Pub, A: 1})
	if name := put(t, &c, Term{Kind: Pub, A: 1}); name != 2 {
		t.Errorf("the copy's Pub has the name %d", name)
	}
	if name := put(t, s, Term{Kind: Pub, A: 1}); name != 3 {
		t.Errorf("the original's Pub has the name %d", name)
	}
	put(t, &c, Term{Kind: Nonce, N: 2})
	checkParts(t, s)
	checkParts(t, &c)
}

// TestStoreThatIsLaidBack: a store that is made again what it was has nothing of what it had meanwhile, and copies of that have it.
func TestStoreThatIsLaidBack(t *testing.T) {
	s := store(t, 9, Term{Kind: Nonce})
	early := *s
	put(t, s, Term{Kind: Pub, A: 1})
	late := *s
	*s = early
	if name := put(t, s, Term{Kind: Kpub, A: 1}); name != 2 {
		t.Errorf("the Kpub's name is %d", name)
	}
	if name := put(t, s, Term{Kind: Pub, A: 1}); name != 3 {
		t.Errorf("the Pub's name is %d", name)
	}
	if x, _ := late.Get(2); x.Kind != Pub || late.Len() != 2 {
		t.Errorf("the copy has %+v", all(&late))
	}
}

// P2.3

func TestPartsOfEachKind(t *testing.T) {
	for _, x := range []struct {
		kind int
		want []int
	}{
		{Text, nil}, {Nonce, nil}, {Pub, []int{7}}, {Share, []int{7, 5}}, {Kpub, []int{7}}, {Box, []int{7, 5}}, {Kem, []int{7, 5}},
		{Hash, []int{7, 5}}, {Key, []int{7}}, {Seal, []int{7, 5, 6}}, {Pair, []int{7, 5}},
		{0, nil}, {-1, nil}, {math.MinInt, nil}, {Kinds, nil}, {Kinds + 1, nil}, {math.MaxInt, nil},
	} {
		if got := Parts(Term{Kind: x.kind, S: "x", N: 9, A: 7, B: 5, C: 6}); !slices.Equal(got, x.want) {
			t.Errorf("Parts of the kind %d are %v, not %v", x.kind, got, x.want)
		}
	}
	// Parts are asked of any term, be they names or not.
	if got := Parts(Term{Kind: Seal, A: -1, B: 0, C: math.MaxInt}); !slices.Equal(got, []int{-1, 0, math.MaxInt}) {
		t.Errorf("Parts of what are no names are %v", got)
	}
}

func TestPartsAreNewMemory(t *testing.T) {
	s := store(t, 20, ofEachKind()...)
	x, _ := s.Get(10)
	one, other := Parts(x), Parts(x)
	one[0] = 99
	_ = append(one[:1], 98, 97)
	if got, _ := s.Get(10); got != x || !slices.Equal(other, []int{9, 8, 1}) || !slices.Equal(Parts(x), []int{9, 8, 1}) {
		t.Errorf("what was told of parts was no list of its own: %+v, %v", got, other)
	}
}

func TestDepthOfEachKind(t *testing.T) {
	s := store(t, 20, ofEachKind()...)
	for i, want := range []int{1, 1, 2, 2, 2, 2, 2, 2, 2, 3, 2} {
		if got := s.Depth(i + 1); got != want {
			t.Errorf("Depth(%d) = %d, not %d", i+1, got, want)
		}
	}
	for _, name := range []int{0, -1, math.MinInt, s.Len() + 1, math.MaxInt} {
		if got := s.Depth(name); got != 0 {
			t.Errorf("Depth(%d) = %d, but there is no such term", name, got)
		}
	}
}

// TestDepthIsThatOfTheDeepestPart: wherever the deepest part stands, it tells.
func TestDepthIsThatOfTheDeepestPart(t *testing.T) {
	s := store(t, 100, Term{Kind: Nonce})
	for i := 1; i < 10; i++ {
		put(t, s, Term{Kind: Key, A: i})
	}
	for _, x := range []struct {
		t    Term
		want int
	}{
		{Term{Kind: Pub, A: 10}, 11},
		{Term{Kind: Share, A: 4, B: 10}, 11},
		{Term{Kind: Pair, A: 10, B: 4}, 11},
		{Term{Kind: Pair, A: 4, B: 10}, 11},
		{Term{Kind: Pair, A: 10, B: 10}, 11},
		{Term{Kind: Seal, A: 10, B: 4, C: 7}, 11},
		{Term{Kind: Seal, A: 7, B: 10, C: 4}, 11},
		{Term{Kind: Seal, A: 4, B: 7, C: 10}, 11},
		{Term{Kind: Seal, A: 1, B: 3, C: 2}, 4},
		{Term{Kind: Key, A: 4, N: 100}, 5},
		{Term{Kind: Nonce, N: 100}, 1},
	} {
		if got := s.Depth(put(t, s, x.t)); got != x.want {
			t.Errorf("the depth of %+v is %d, not %d", x.t, got, x.want)
		}
	}
}

// P2.4

// drawn is any term, whether it may be or not, of names to a bit beyond those that are there.
func drawn(r *rand.Rand, size int) Term {
	name := func() int { return r.Intn(size+3) - 1 }
	x := Term{Kind: r.Intn(Kinds + 1)}
	switch x.Kind {
	case Text:
		x.S = strings.Repeat("x", r.Intn(4))
	case Nonce:
		x.N = uint64(r.Intn(4))
	case Pub, Kpub:
		x.A = name()
	case Key:
		x.A, x.N = name(), uint64(r.Intn(3))
	case Seal:
		x.A, x.B, x.C, x.N = name(), name(), name(), uint64(r.Intn(3))
	default:
		x.A, x.B = name(), name()
	}
	if r.Intn(10) == 0 {
		x.C = name()
	}
	return x
}

// may tells by the chapter's words whether a drawn term may be, where there are size ones.
func may(x Term, size int) bool {
	is := func(names ...int) bool {
		return !slices.ContainsFunc(names, func(n int) bool { return n < 1 || n > size })
	}
	switch x.Kind {
	case Text, Nonce:
		return x.C == 0
	case Pub, Kpub, Key:
		return is(x.A) && x.C == 0
	case Share:
		return is(x.A, x.B) && x.A <= x.B && x.C == 0
	case Box, Kem, Hash, Pair:
		return is(x.A, x.B) && x.C == 0
	case Seal:
		return is(x.A, x.B, x.C)
	}
	return false
}

// TestStoreIsAListOfTerms holds a store against a list that is gone through.
func TestStoreIsAListOfTerms(t *testing.T) {
	for seed := range int64(40) {
		r := rand.New(rand.NewSource(seed))
		most := r.Intn(120)
		s := store(t, most)
		var l []Term
		for range 1000 {
			x := drawn(r, len(l))
			wantName, wantErr := slices.Index(l, x)+1, api.OK
			if !may(x, len(l)) {
				wantErr = api.ErrArg
			} else if wantName == 0 && len(l) == most {
				wantErr = api.ErrBig
			} else if wantName == 0 {
				l = append(l, x)
				wantName = len(l)
			}
			if name, err := s.Put(x); name != wantName || err != wantErr {
				t.Fatalf("of %d terms Put(%+v) = %d, %d, not %d, %d", len(l), x, name, err, wantName, wantErr)
			}
		}
		if !slices.Equal(all(s), l) {
			t.Fatalf("the store of the seed %d has other terms than those that were put", seed)
		}
		checkParts(t, s)
	}
}

// checkParts looks whether all parts' names are below their term's, and depths one above the deepest.
func checkParts(t *testing.T, s *Store) {
	t.Helper()
	for name := 1; name <= s.Len(); name++ {
		x, _ := s.Get(name)
		deepest := 0
		for _, part := range Parts(x) {
			if part < 1 || part >= name {
				t.Errorf("%+v has the name %d", x, name)
			}
			deepest = max(deepest, s.Depth(part))
		}
		if got := s.Depth(name); got != deepest+1 {
			t.Errorf("Depth(%d) = %d, not %d", name, got, deepest+1)
		}
	}
}

// TestTheSameTermHasTheSameName: however it came, by which string, and whatever came between.
func TestTheSameTermHasTheSameName(t *testing.T) {
	s := store(t, 100)
	a := put(t, s, Term{Kind: Text, S: "abc"})
	n := put(t, s, Term{Kind: Nonce, N: 3})
	put(t, s, Term{Kind: Text, S: "ab"})
	if b := put(t, s, Term{Kind: Text, S: string([]byte{'a', 'b', 'c'})}); b != a {
		t.Errorf("the text's names are %d and %d", a, b)
	}
	h := put(t, s, Term{Kind: Hash, A: a, B: n})
	put(t, s, Term{Kind: Hash, A: n, B: a})
	if x, _ := s.Get(h); put(t, s, x) != h {
		t.Errorf("what Get tells of %d has another name", h)
	}
	if g := put(t, s, Term{Kind: Hash, A: put(t, s, Term{Kind: Text, S: "abc"}), B: put(t, s, Term{Kind: Nonce, N: 3})}); g != h {
		t.Errorf("the hash's names are %d and %d", h, g)
	}
}

// TestStoresMakeNoDifferenceForEachOther: what one has the other one has not.
func TestStoresMakeNoDifferenceForEachOther(t *testing.T) {
	one, other := store(t, 5, Term{Kind: Nonce, N: 1}), store(t, 5)
	refused(t, "of what the other store has", other, Term{Kind: Pub, A: 1}, api.ErrArg)
	if name := put(t, other, Term{Kind: Nonce, N: 2}); name != 1 || one.Len() != 1 {
		t.Errorf("the name is %d, and the other store has %d", name, one.Len())
	}
}
