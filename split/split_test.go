package split

import (
	"bytes"
	"fmt"
	"math"
	"math/rand"
	"slices"
	"strings"
	"testing"
	"unsafe"

	"sough/api"
	"sough/samples"
	"sough/vint"
)

// The bytes of 2^32, and of the number above it.
const (
	most32  = "\x90\x80\x80\x80\x00"
	above32 = "\x90\x80\x80\x80\x01"
)

// isRight tells by the chapter's words whether a part may be.
func isRight(f Frag) bool {
	switch {
	case f.ID < 1, f.ID > 4294967296:
		return false
	case f.Count < 1, f.Count > 16:
		return false
	case f.Index < 0, f.Index >= f.Count:
		return false
	}
	return len(f.Part) >= 1 && len(f.Part) <= 1000
}

// cut is by the promise's words what Cut tells of a text.
func cut(s string, id uint64, size int) ([]Frag, api.Errno) {
	if id < 1 || id > 4294967296 || size < 1 || size > 1000 || len(s) < 1 || len(s) > 4096 {
		return nil, api.ErrArg
	}
	var l []Frag
	for rest := s; rest != ""; {
		part := rest[:min(size, len(rest))]
		l = append(l, Frag{ID: id, Index: len(l), Part: part})
		rest = strings.TrimPrefix(rest, part)
	}
	if len(l) > 16 {
		return nil, api.ErrBig
	}
	for i := range l {
		l[i].Count = len(l)
	}
	return l, api.OK
}

// joined is by the promise's words what Join tells of parts.
func joined(l []Frag) (string, api.Errno) {
	if len(l) < 1 || len(l) > 16 {
		return "", api.ErrForm
	}
	s := ""
	for i, f := range l {
		if !isRight(f) || f.ID != l[0].ID || f.Count != len(l) || f.Index != i {
			return "", api.ErrForm
		}
		s += f.Part
	}
	if len(s) > 4096 {
		return "", api.ErrBig
	}
	return s, api.OK
}

// bytesOf are those of a part, whether it may be or not.
func bytesOf(f Frag) string {
	return vint.Put(f.ID) + vint.Put(uint64(f.Index)) + vint.Put(uint64(f.Count)) + f.Part
}

// decoded is by the promise's words what Decode tells of bytes.
func decoded(s string) (Frag, api.Errno) {
	id, at, err := vint.Get(s, 0)
	if err != api.OK {
		return Frag{}, err
	}
	index, at, err := vint.Get(s, at)
	if err != api.OK {
		return Frag{}, err
	}
	count, at, err := vint.Get(s, at)
	if err != api.OK {
		return Frag{}, err
	}
	if max(id, index, count) > 4294967296 {
		return Frag{}, api.ErrForm
	}
	f := Frag{ID: id, Index: int(index), Count: int(count), Part: s[at:]}
	if !isRight(f) {
		return Frag{}, api.ErrForm
	}
	return f, api.OK
}

// several are some parts that may be.
func several() []Frag {
	return []Frag{
		{ID: 7, Index: 1, Count: 3, Part: "cd"},
		{ID: 1, Index: 0, Count: 1, Part: "a"},
		{ID: 127, Index: 0, Count: 2, Part: "\x00"},
		{ID: 128, Index: 1, Count: 2, Part: "\xff\x80\x00"},
		{ID: 300, Index: 9, Count: 10, Part: samples.EachByte()},
		{ID: 1<<32 - 1, Index: 0, Count: 16, Part: samples.OfSize(999)},
		{ID: 1 << 32, Index: 15, Count: 16, Part: samples.OfSize(1000)},
	}
}

// looks looks what Right and Encode tell of a part.
func looks(t *testing.T, why string, f Frag, want bool) {
	t.Helper()
	if got := Right(f); got != want {
		t.Errorf("%s: Right(%s) is %t", why, short(f), got)
	}
	wantBytes := ""
	if want {
		wantBytes = bytesOf(f)
	}
	if got := Encode(f); got != wantBytes {
		t.Errorf("%s: Encode(%s) = %x, not %x", why, short(f), got, wantBytes)
	}
}

// short tells a part in few bytes.
func short(f Frag) string {
	return fmt.Sprintf("{%d, %d of %d, %d bytes: %.20x}", f.ID, f.Index, f.Count, len(f.Part), f.Part)
}

// cuts looks what Cut tells of a text.
func cuts(t *testing.T, why, s string, id uint64, size int, want []Frag, wantErr api.Errno) {
	t.Helper()
	if got, err := Cut(s, id, size); !slices.Equal(got, want) || err != wantErr {
		t.Errorf("%s: Cut of %d bytes, %d, %d = %d parts, %d, not %d, %d", why, len(s), id, size, len(got), err, len(want), wantErr)
	}
}

// cutsNot looks whether a text is not cut, with nothing beside the error.
func cutsNot(t *testing.T, why, s string, id uint64, size int, want api.Errno) {
	t.Helper()
	cuts(t, why, s, id, size, nil, want)
}

// joins looks what Join tells of parts, and whether it leaves them, and the room behind them, as they were.
func joins(t *testing.T, why string, l []Frag, want string, wantErr api.Errno) {
	t.Helper()
	behind := []Frag{{ID: 9, Index: 5, Count: 6, Part: "behind"}, {}}
	room := slices.Concat(l, behind)
	if got, err := Join(room[:len(l)]); got != want || err != wantErr {
		t.Errorf("%s: Join of %d parts = %d bytes, %d, not %d bytes, %d", why, len(l), len(got), err, len(want), wantErr)
	}
	if !slices.Equal(room, slices.Concat(l, behind)) {
		t.Errorf("%s: of %d parts, and the room behind, Join leaves something else", why, len(l))
	}
}

// joinsNot looks whether parts are not joined, with nothing beside the error.
func joinsNot(t *testing.T, why string, l []Frag, want api.Errno) {
	t.Helper()
	joins(t, why, l, "", want)
}

// decodes looks what Decode tells of bytes.
func decodes(t *testing.T, why, s string, want Frag, wantErr api.Errno) {
	t.Helper()
	if got, err := Decode(s); got != want || err != wantErr {
		t.Errorf("%s: Decode of %d bytes, %.40x, = %s, %d, not %s, %d", why, len(s), s, short(got), err, short(want), wantErr)
	}
}

// refused looks whether bytes are refused, with nothing beside the error.
func refused(t *testing.T, why, s string, want api.Errno) {
	t.Helper()
	decodes(t, why, s, Frag{}, want)
}

// holds looks whether Decode tells of bytes what the promise's own words do; and what is decoded, encoded, are these.
func holds(t *testing.T, why, s string) {
	t.Helper()
	want, wantErr := decoded(s)
	decodes(t, why, s, want, wantErr)
	if f, err := Decode(s); err == api.OK && Encode(f) != s {
		t.Errorf("%s: %x is decoded to %s, and that encoded to %x", why, s, short(f), Encode(f))
	}
}

func TestExamplesOfTheChapter(t *testing.T) {
	l := []Frag{{ID: 7, Index: 0, Count: 3, Part: "ab"}, {ID: 7, Index: 1, Count: 3, Part: "cd"}, {ID: 7, Index: 2, Count: 3, Part: "e"}}
	cuts(t, "the example", "abcde", 7, 2, l, api.OK)
	joins(t, "the example", l, "abcde", api.OK)
	if got := Encode(l[1]); got != "\x07\x01\x03cd" {
		t.Errorf("Encode of the second one = %x", got)
	}
	decodes(t, "the example", "\x07\x01\x03cd", l[1], api.OK)
}

// P11.1

func TestOrdinaryPartsAreRight(t *testing.T) {
	for _, f := range several() {
		looks(t, "an ordinary part", f, true)
	}
}

func TestZeroPartIsNotRight(t *testing.T) {
	looks(t, "the zero part", Frag{}, false)
	for _, f := range []Frag{
		{Index: 1, Count: 3, Part: "cd"},
		{ID: 7, Index: 1, Part: "cd"},
		{ID: 7, Part: "cd"},
		{ID: 7, Index: 1, Count: 3},
		{ID: 7},
		{Count: 1},
		{Part: "cd"},
	} {
		looks(t, "a part with fields of zero", f, false)
	}
	looks(t, "a part of which Index alone is zero", Frag{ID: 7, Count: 3, Part: "cd"}, true)
}

func TestRightOfIDs(t *testing.T) {
	for _, f := range several() {
		for _, f.ID = range []uint64{1, 2, 127, 128, 255, 256, 1 << 20, 1<<31 - 1, 1 << 31, 1<<32 - 1, 1 << 32} {
			looks(t, "an ID that may be", f, true)
		}
		for _, f.ID = range append(samples.Above32(), 0, 1<<32+128, math.MaxUint64-1) {
			looks(t, "an ID that may not be", f, false)
		}
	}
}

// TestRightOfIndexesAndCounts: all small ones, and with each of these very great and very small ones, and some whose last bits are those of a small one.
func TestRightOfIndexesAndCounts(t *testing.T) {
	l := []int{math.MaxInt, math.MaxInt - 1, math.MinInt, math.MinInt + 1, 256, 257, 1<<16 + 3, 1<<32 - 1, 1 << 32, 1<<32 + 1, 1<<32 + 16, 1<<62 + 2, -255, -256, 3 - 1<<32, -1 << 32, -1 << 62}
	for n := -20; n <= 40; n++ {
		l = append(l, n)
	}
	for _, count := range l {
		for _, index := range l {
			f := Frag{ID: 7, Index: index, Count: count, Part: "cd"}
			looks(t, "some index, and some count", f, isRight(f))
		}
	}
	for count := 1; count <= 16; count++ {
		looks(t, "the first one", Frag{ID: 7, Index: 0, Count: count, Part: "cd"}, true)
		looks(t, "the last one", Frag{ID: 7, Index: count - 1, Count: count, Part: "cd"}, true)
		looks(t, "the one behind the last one", Frag{ID: 7, Index: count, Count: count, Part: "cd"}, false)
		looks(t, "the one ahead of the first one", Frag{ID: 7, Index: -1, Count: count, Part: "cd"}, false)
	}
	looks(t, "the first one of none", Frag{ID: 7, Index: 0, Count: 0, Part: "cd"}, false)
	looks(t, "the last one of seventeen", Frag{ID: 7, Index: 16, Count: 17, Part: "cd"}, false)
	looks(t, "the first one of seventeen", Frag{ID: 7, Index: 0, Count: 17, Part: "cd"}, false)
}

func TestRightOfParts(t *testing.T) {
	for _, f := range several() {
		for _, size := range []int{1, 2, 127, 128, 255, 256, 257, 999, 1000} {
			f.Part = samples.OfSize(size)
			looks(t, "as many bytes as may be", f, true)
		}
		for _, size := range []int{0, 1001, 1002, 1024, 1256, 4096, 1 << 16, 1<<16 + 1} {
			f.Part = samples.OfSize(size)
			looks(t, "as many bytes as may not be", f, false)
		}
		for _, f.Part = range []string{"\x00", "\x80", "\xff", "\u00e9", "\x07\x01\x03cd", strings.Repeat("\u00e9", 500)} {
			looks(t, "whatever bytes", f, true)
		}
		f.Part = strings.Repeat("\u00e9", 501)
		looks(t, "fewer runes than may be, of more bytes", f, false)
	}
}

// some is some part, that more often may be than not.
func some(r *rand.Rand) Frag {
	f := Frag{ID: 1 + uint64(r.Int63n(1<<32)), Count: 1 + r.Intn(16), Part: samples.OfSize(1 + r.Intn(1000))}
	f.Index = r.Intn(f.Count)
	if r.Intn(2) == 0 {
		f.ID = 1 + uint64(r.Intn(300))
	}
	for r.Intn(3) == 0 {
		switch r.Intn(4) {
		case 0:
			f.ID = []uint64{0, 1 << 32, 1<<32 + 1, 1<<33 + 5, math.MaxUint64}[r.Intn(5)]
		case 1:
			f.Index = []int{-1, 0, f.Count - 1, f.Count, 1 << 32, math.MinInt, math.MaxInt}[r.Intn(7)]
		case 2:
			f.Count = []int{-1, 0, 1, 16, 17, 1<<32 + 3, math.MinInt, math.MaxInt}[r.Intn(8)]
		case 3:
			f.Part = samples.OfSize([]int{0, 1, 1000, 1001}[r.Intn(4)])
		}
	}
	return f
}

// TestPartsOfManyValues holds what Right and Encode answer against the chapter's own words.
func TestPartsOfManyValues(t *testing.T) {
	r := rand.New(rand.NewSource(11))
	for range 20000 {
		f := some(r)
		looks(t, "some part", f, isRight(f))
	}
}

// P11.2

func TestCutTellsParts(t *testing.T) {
	for _, x := range []struct {
		s    string
		size int
		want []string
	}{
		{"a", 1, []string{"a"}},
		{"a", 1000, []string{"a"}},
		{"ab", 1, []string{"a", "b"}},
		{"abcd", 2, []string{"ab", "cd"}},
		{"abcde", 2, []string{"ab", "cd", "e"}},
		{"abcdef", 4, []string{"abcd", "ef"}},
		{"abcdef", 5, []string{"abcde", "f"}},
		{"abcdef", 6, []string{"abcdef"}},
		{"abcdef", 7, []string{"abcdef"}},
		{"aaaa", 2, []string{"aa", "aa"}},
		{"\x00\x00\x00", 2, []string{"\x00\x00", "\x00"}},
		{"\xff\x80\x7f", 1, []string{"\xff", "\x80", "\x7f"}},
		{"\u00e9\u00e8", 3, []string{"\u00e9\xc3", "\xa8"}},
		{"0123456789abcdef", 1, strings.Split("0123456789abcdef", "")},
	} {
		for _, id := range []uint64{1, 7, 1 << 32} {
			var want []Frag
			for i, part := range x.want {
				want = append(want, Frag{ID: id, Index: i, Count: len(x.want), Part: part})
			}
			cuts(t, "parts", x.s, id, x.size, want, api.OK)
		}
	}
}

// TestCutOfAllSizes: of texts of many lengths, those at which the number of parts changes among them.
func TestCutOfAllSizes(t *testing.T) {
	for size := 1; size <= 1000; size++ {
		lengths := []int{1, 2, 100, 999, 1000, 1001, 2000, 4095, 4096}
		for count := 1; count <= 17; count++ {
			lengths = append(lengths, size*count-1, size*count, size*count+1)
		}
		for _, length := range lengths {
			if length < 1 || length > 4096 {
				continue
			}
			s := samples.OfSize(length)
			want, wantErr := cut(s, 7, size)
			cuts(t, "a text", s, 7, size, want, wantErr)
			got, err := Cut(s, 7, size)
			if (err == api.OK) != (length <= 16*size) {
				t.Errorf("Cut of %d bytes by %d = %d", length, size, err)
			}
			inOrder(t, got, s, size)
		}
	}
}

// inOrder looks whether these are full parts, but for the last one, that stand in order, with one ID and the count of all, and have all bytes of a text together.
func inOrder(t *testing.T, l []Frag, s string, size int) {
	t.Helper()
	all := ""
	for i, f := range l {
		all += f.Part
		if f.ID != 7 || f.Index != i || f.Count != len(l) || !Right(f) {
			t.Errorf("of %d bytes by %d, the part at %d of %d is %s", len(s), size, i, len(l), short(f))
		}
		if i < len(l)-1 && len(f.Part) != size || len(f.Part) > size {
			t.Errorf("of %d bytes by %d, the part at %d of %d has %d bytes", len(s), size, i, len(l), len(f.Part))
		}
	}
	if len(l) > 0 && all != s {
		t.Errorf("of %d bytes by %d, the parts have other bytes together", len(s), size)
	}
}

// TestCutOfSixteenPartsAndMore: of each size at which a text of 17 parts may be, if its last part has one byte.
func TestCutOfSixteenPartsAndMore(t *testing.T) {
	for size := 1; 16*size <= 4096; size++ {
		for _, length := range []int{15 * size, 15*size + 1, 16*size - 1, 16 * size} {
			want := 16
			if length == 15*size {
				want = 15
			}
			if got, err := Cut(samples.OfSize(length), 1, size); len(got) != want || err != api.OK {
				t.Errorf("Cut of %d bytes by %d = %d parts, %d, not %d", length, size, len(got), err, want)
			}
		}
		for _, length := range []int{16*size + 1, 17 * size, 17*size + 1, 4096} {
			if length > 16*size && length <= 4096 {
				cutsNot(t, "more than 16 parts", samples.OfSize(length), 1, size, api.ErrBig)
			}
		}
	}
	if got, err := Cut(samples.OfSize(4096), 1, 256); len(got) != 16 || err != api.OK {
		t.Errorf("Cut of 4096 bytes by 256 = %d parts, %d", len(got), err)
	}
	cutsNot(t, "as many bytes as may be, by 255", samples.OfSize(4096), 1, 255, api.ErrBig)
	if got, err := Cut(samples.OfSize(4096), 1, 1000); len(got) != 5 || len(got[4].Part) != 96 || err != api.OK {
		t.Errorf("Cut of 4096 bytes by 1000 = %d parts, %d", len(got), err)
	}
}

// noSizes are numbers of bytes that parts may not have.
func noSizes() []int {
	return []int{0, -1, -2, -255, -256, 2 - 1<<32, -1 << 32, math.MinInt, math.MinInt + 1, 1001, 1002, 1024, 4096, 4097, 1<<32 + 2, math.MaxInt - 1, math.MaxInt}
}

// noIDs are numbers that no message may have.
func noIDs() []uint64 { return append(samples.Above32(), 0) }

// noTexts are such that are no message.
func noTexts() []string {
	return []string{"", samples.OfSize(4097), samples.OfSize(4098), samples.OfSize(8192), samples.OfSize(1 << 17)}
}

func TestCutRefuses(t *testing.T) {
	for _, s := range []string{"a", "abcde", samples.OfSize(1000), samples.OfSize(4096)} {
		for _, size := range noSizes() {
			cutsNot(t, "a size that may not be", s, 7, size, api.ErrArg)
		}
		for _, id := range noIDs() {
			cutsNot(t, "an ID that may not be", s, id, 1000, api.ErrArg)
		}
	}
	for _, s := range noTexts() {
		for _, size := range []int{1, 2, 256, 257, 999, 1000} {
			cutsNot(t, "a text that may not be", s, 7, size, api.ErrArg)
		}
	}
	for _, length := range []int{1, 2, 4095, 4096} {
		for _, id := range []uint64{1, 2, 1<<32 - 1, 1 << 32} {
			want, _ := cut(samples.OfSize(length), id, 1000)
			cuts(t, "a text and an ID that may be", samples.OfSize(length), id, 1000, want, api.OK)
		}
	}
}

func TestCutTellsFirstError(t *testing.T) {
	for _, size := range noSizes() {
		for _, s := range append(noTexts(), samples.OfSize(17), samples.OfSize(4096)) {
			for _, id := range append(noIDs(), 7) {
				cutsNot(t, "a size that may not be, and other faults", s, id, size, api.ErrArg)
			}
		}
	}
	for _, id := range noIDs() {
		cutsNot(t, "an ID that may not be, and too many parts", samples.OfSize(17), id, 1, api.ErrArg)
		cutsNot(t, "an ID that may not be, and too many parts", samples.OfSize(4096), id, 255, api.ErrArg)
		for _, s := range noTexts() {
			cutsNot(t, "an ID and a text that may not be", s, id, 1, api.ErrArg)
		}
	}
	cutsNot(t, "a text that is too long, and too many parts", samples.OfSize(4097), 7, 1, api.ErrArg)
	cutsNot(t, "a text that is too long, and too many parts", samples.OfSize(4097), 7, 256, api.ErrArg)
	cutsNot(t, "too many parts alone", samples.OfSize(4096), 7, 1, api.ErrBig)
}

// TestCutAnswersNewMemory: each time, and what is written into a place, or behind some parts, changes nothing else.
func TestCutAnswersNewMemory(t *testing.T) {
	s := samples.OfSize(100)
	want, _ := cut(s, 7, 9)
	other := Frag{ID: 9, Index: 8, Count: 9, Part: "other"}
	for i := range want {
		first, _ := Cut(s, 7, 9)
		second, _ := Cut(s, 7, 9)
		first[i] = other
		changed := slices.Clone(want)
		changed[i] = other
		if !slices.Equal(first, changed) || !slices.Equal(second, want) {
			t.Errorf("once the part at %d was written, others are changed", i)
		}
	}
	first, _ := Cut(s, 7, 9)
	second, _ := Cut(s, 7, 9)
	_ = append(first, other, other)
	for i := range first[:cap(first)] {
		first[:cap(first)][i] = other
	}
	if !slices.Equal(second, want) {
		t.Errorf("once one answer was written, and the room behind it, another one is changed")
	}
	cuts(t, "cut again", s, 7, 9, want, api.OK)
}

// TestCutPartsAreNoPiecesOfTheText: also where there is one part alone.
func TestCutPartsAreNoPiecesOfTheText(t *testing.T) {
	for _, size := range []int{1, 4, 7, 15, 16, 17, 1000} {
		s := samples.OfSize(16)
		l, _ := Cut(s, 7, size)
		for _, f := range l {
			if within(f.Part, s) {
				t.Errorf("of 16 bytes by %d, the part at %d stands within what was handed in", size, f.Index)
			}
		}
	}
}

// within tells whether a text's first byte is one of those of s.
func within(x, s string) bool {
	for i := range len(s) {
		if unsafe.StringData(x) == unsafe.StringData(s[i:]) {
			return true
		}
	}
	return false
}

// TestPiecesHaveNoRoomBehind: what is appended to one, or written there, changes no other; and they end where the loop does.
func TestPiecesHaveNoRoomBehind(t *testing.T) {
	all := []byte(samples.OfSize(20))
	var l [][]byte
	for piece := range pieces(all, 6) {
		if cap(piece) != len(piece) {
			t.Errorf("a piece of %d bytes has room for %d", len(piece), cap(piece))
		}
		l = append(l, piece)
		_ = append(piece, "more"...)
	}
	if string(bytes.Join(l, nil)) != samples.OfSize(20) || len(l) != 4 {
		t.Errorf("of 20 bytes by 6, the %d pieces are %x", len(l), l)
	}
	count := 0
	for range pieces(all, 6) {
		if count++; count == 2 {
			break
		}
	}
	if count != 2 {
		t.Errorf("after two pieces there came %d more", count-2)
	}
}

// partsOf are as many parts of a message, of so many bytes each.
func partsOf(count, size int) []Frag {
	var l []Frag
	for i := range count {
		l = append(l, Frag{ID: 7, Index: i, Count: count, Part: samples.OfSize(count * size)[i*size:][:size]})
	}
	return l
}

// with is a list with another part in a place.
func with(l []Frag, place int, f Frag) []Frag {
	l = slices.Clone(l)
	l[place] = f
	return l
}

// reversed is a list with the last part first.
func reversed(l []Frag) []Frag {
	l = slices.Clone(l)
	slices.Reverse(l)
	return l
}

func TestJoinOfWhatIsCut(t *testing.T) {
	for _, length := range []int{1, 2, 3, 15, 16, 17, 100, 256, 1000, 1001, 4095, 4096} {
		s := samples.OfSize(length)
		for size := 1; size <= 1000; size++ {
			if l, err := Cut(s, 1<<32, size); err == api.OK {
				joins(t, "what was cut", l, s, api.OK)
			}
		}
	}
}

// TestJoinOfSomeParts: none, and all numbers of parts that may be, and more.
func TestJoinOfSomeParts(t *testing.T) {
	joinsNot(t, "none", nil, api.ErrForm)
	joinsNot(t, "none", []Frag{}, api.ErrForm)
	if got, err := Join(nil); got != "" || err != api.ErrForm {
		t.Errorf("Join(nil) = %q, %d", got, err)
	}
	for count := 1; count <= 16; count++ {
		l := partsOf(count, 5)
		want, _ := joined(l)
		joins(t, "as many parts as may be", l, want, api.OK)
	}
	for _, count := range []int{17, 18, 32, 256, 257, 1000} {
		l := partsOf(count, 1)
		joinsNot(t, "too many parts, that have the count of all", l, api.ErrForm)
		for i := range l {
			l[i].Count = 16
		}
		joinsNot(t, "too many parts, of 16", l, api.ErrForm)
		for i := range l {
			l[i].Index = i % 16
		}
		joinsNot(t, "too many parts, the 16 again and again", l, api.ErrForm)
	}
}

// TestJoinOfPartsOfUnlikeSizes: what is joined need not be cut by one size.
func TestJoinOfPartsOfUnlikeSizes(t *testing.T) {
	l := []Frag{{ID: 7, Index: 0, Count: 4, Part: "a"}, {ID: 7, Index: 1, Count: 4, Part: samples.OfSize(1000)}, {ID: 7, Index: 2, Count: 4, Part: "\x00"}, {ID: 7, Index: 3, Count: 4, Part: "bcd"}}
	joins(t, "parts of unlike sizes", l, "a"+samples.OfSize(1000)+"\x00bcd", api.OK)
}

// TestJoinOfPartsThatAreNotAll: of all numbers of parts, without one, with one twice, two in each other's places, or a part of another message.
func TestJoinOfPartsThatAreNotAll(t *testing.T) {
	for count := 1; count <= 16; count++ {
		l := partsOf(count, 3)
		for i := range count {
			joinsNot(t, "one lacks", slices.Delete(slices.Clone(l), i, i+1), api.ErrForm)
			joinsNot(t, "one twice, side by side", slices.Insert(slices.Clone(l), i, l[i]), api.ErrForm)
			joinsNot(t, "one twice, also at the end", append(slices.Clone(l), l[i]), api.ErrForm)
			if count > 1 {
				joinsNot(t, "one alone", l[i:i+1], api.ErrForm)
			}
			for other := range count {
				if other == i {
					continue
				}
				joinsNot(t, "two in each other's places", with(with(l, i, l[other]), other, l[i]), api.ErrForm)
				joinsNot(t, "one in another one's place", with(l, i, l[other]), api.ErrForm)
			}
		}
		if count > 1 {
			joinsNot(t, "the last one first", reversed(l), api.ErrForm)
			joinsNot(t, "the first one last", append(slices.Clone(l[1:]), l[0]), api.ErrForm)
			joinsNot(t, "all twice", slices.Concat(l, l), api.ErrForm)
		}
	}
}

// odd are some parts that may not be in the place of f: not right, of another message, of another count, or of another place.
func odd(f Frag) []Frag {
	l := []Frag{{}}
	of := func(change func(f *Frag)) {
		x := f
		change(&x)
		l = append(l, x)
	}
	for _, id := range append(noIDs(), f.ID+1, f.ID-1, f.ID+1<<8, f.ID^1<<31, 1<<32) {
		of(func(x *Frag) { x.ID = id })
	}
	for _, n := range []int{-1, f.Count - 1, f.Count + 1, 17, 0, f.Count + 256, f.Count + 1<<32, f.Count - 1<<32, math.MaxInt, math.MinInt} {
		of(func(x *Frag) { x.Count = n })
	}
	for _, n := range []int{-1, f.Index - 1, f.Index + 1, f.Count, 16, f.Index + 256, f.Index + 1<<32, f.Index - 1<<32, math.MaxInt, math.MinInt} {
		of(func(x *Frag) { x.Index = n })
	}
	for _, size := range []int{0, 1001, 1002, 5000} {
		of(func(x *Frag) { x.Part = samples.OfSize(size) })
	}
	return l
}

// TestJoinOfOddParts: alone, and in each place beside others.
func TestJoinOfOddParts(t *testing.T) {
	for _, count := range []int{2, 3, 8, 16} {
		l := partsOf(count, 3)
		for i := range l {
			for _, x := range odd(l[i]) {
				joinsNot(t, "an odd part beside others", with(l, i, x), api.ErrForm)
			}
		}
	}
	one := Frag{ID: 7, Index: 0, Count: 1, Part: "cd"}
	joins(t, "one alone", []Frag{one}, "cd", api.OK)
	for _, x := range odd(one) {
		// Of another message, it is one part of one all the same.
		want, wantErr := joined([]Frag{x})
		joins(t, "an odd part alone", []Frag{x}, want, wantErr)
	}
	for _, f := range several() {
		want := ""
		wantErr := api.ErrForm
		if f.Count == 1 {
			want, wantErr = f.Part, api.OK
		}
		joins(t, "a part that may be alone", []Frag{f}, want, wantErr)
	}
}

// TestJoinOfOneFaultOfAll: parts of which each one has the same fault.
func TestJoinOfOneFaultOfAll(t *testing.T) {
	for count := 1; count <= 16; count++ {
		for _, change := range []func(f *Frag){
			func(f *Frag) { f.ID = 0 },
			func(f *Frag) { f.ID = 1<<32 + 1 },
			func(f *Frag) { f.Count++ },
			func(f *Frag) { f.Count-- },
			func(f *Frag) { f.Count = 0 },
			func(f *Frag) { f.Count = -f.Count },
			func(f *Frag) { f.Index++ },
			func(f *Frag) { f.Index-- },
			func(f *Frag) { f.Part = "" },
			func(f *Frag) { f.Part = samples.OfSize(1001) },
		} {
			l := partsOf(count, 3)
			for i := range l {
				change(&l[i])
			}
			joinsNot(t, "all with one fault", l, api.ErrForm)
		}
	}
}

// manyBytes are parts that have so many bytes together.
func manyBytes(sizes ...int) []Frag {
	var l []Frag
	for i, size := range sizes {
		l = append(l, Frag{ID: 7, Index: i, Count: len(sizes), Part: samples.OfSize(size)})
	}
	return l
}

func TestJoinOfManyBytes(t *testing.T) {
	for _, x := range []struct {
		why  string
		l    []Frag
		want api.Errno
	}{
		{"4095 bytes", manyBytes(1000, 1000, 1000, 1000, 95), api.OK},
		{"4096 bytes", manyBytes(1000, 1000, 1000, 1000, 96), api.OK},
		{"4096 bytes, the short part first", manyBytes(96, 1000, 1000, 1000, 1000), api.OK},
		{"4096 bytes, of 16 parts", partsOf(16, 256), api.OK},
		{"4097 bytes", manyBytes(1000, 1000, 1000, 1000, 97), api.ErrBig},
		{"4097 bytes, the short part first", manyBytes(97, 1000, 1000, 1000, 1000), api.ErrBig},
		{"4097 bytes, of a part of one byte", manyBytes(1000, 1000, 1000, 999, 97, 1), api.ErrBig},
		{"4112 bytes, of 16 parts", partsOf(16, 257), api.ErrBig},
		{"5000 bytes", partsOf(5, 1000), api.ErrBig},
		{"as many bytes as 16 parts can have", partsOf(16, 1000), api.ErrBig},
	} {
		want := ""
		if x.want == api.OK {
			for _, f := range x.l {
				want += f.Part
			}
		}
		joins(t, x.why, x.l, want, x.want)
	}
}

// TestJoinTellsFirstError: parts that are no message, and have too many bytes.
func TestJoinTellsFirstError(t *testing.T) {
	for _, l := range [][]Frag{partsOf(5, 1000), manyBytes(1000, 1000, 1000, 1000, 97), partsOf(16, 1000)} {
		for i := range l {
			for _, x := range odd(l[i]) {
				joinsNot(t, "an odd part, and too many bytes", with(l, i, x), api.ErrForm)
			}
			joinsNot(t, "one lacks, and too many bytes", slices.Delete(slices.Clone(l), i, i+1), api.ErrForm)
		}
		joinsNot(t, "the last one first, and too many bytes", reversed(l), api.ErrForm)
		last := len(l) - 1
		joinsNot(t, "the last two in each other's places, and too many bytes", with(with(l, last, l[last-1]), last-1, l[last]), api.ErrForm)
	}
	joinsNot(t, "too many parts, and too many bytes", partsOf(17, 1000), api.ErrForm)
}

// TestJoinOfAllShortLists holds what Join answers against the promise's own words, of every list of at most four parts, of those of a few.
func TestJoinOfAllShortLists(t *testing.T) {
	few := []Frag{
		{ID: 7, Index: 0, Count: 1, Part: "a"},
		{ID: 7, Index: 0, Count: 2, Part: "b"}, {ID: 7, Index: 1, Count: 2, Part: "c"},
		{ID: 7, Index: 0, Count: 3, Part: "d"}, {ID: 7, Index: 1, Count: 3, Part: "e"}, {ID: 7, Index: 2, Count: 3, Part: "f"},
		{ID: 8, Index: 0, Count: 2, Part: "g"}, {ID: 8, Index: 1, Count: 2, Part: "h"},
		{ID: 7, Index: 2, Count: 2, Part: "i"},
		{ID: 7, Index: 1, Count: 2},
	}
	var grow func(l []Frag)
	grow = func(l []Frag) {
		want, wantErr := joined(l)
		joins(t, "a short list", l, want, wantErr)
		if len(l) == 4 {
			return
		}
		for _, f := range few {
			grow(append(slices.Clip(l), f))
		}
	}
	grow(nil)
}

// TestJoinIsNewMemory: also of one part alone.
func TestJoinIsNewMemory(t *testing.T) {
	for _, l := range [][]Frag{partsOf(1, 100), partsOf(2, 100), partsOf(16, 1)} {
		first, _ := Join(l)
		second, _ := Join(l)
		for _, f := range l {
			if within(first, f.Part) {
				t.Errorf("what %d parts are stands within one of them", len(l))
			}
		}
		if first != second || within(first, second) {
			t.Errorf("what %d parts are, asked again, stands where it stood", len(l))
		}
	}
}

// P11.3

func TestEncodeTellsBytes(t *testing.T) {
	for _, x := range []struct {
		f    Frag
		want string
	}{
		{Frag{ID: 1, Index: 0, Count: 1, Part: "a"}, "\x01\x00\x01a"},
		{Frag{ID: 7, Index: 1, Count: 3, Part: "cd"}, "\x07\x01\x03cd"},
		{Frag{ID: 127, Index: 15, Count: 16, Part: "\x00"}, "\x7f\x0f\x10\x00"},
		{Frag{ID: 128, Index: 0, Count: 16, Part: "\xff\x80"}, "\x81\x00\x00\x10\xff\x80"},
		{Frag{ID: 300, Index: 2, Count: 4, Part: "\x82\x2c"}, "\x82\x2c\x02\x04\x82\x2c"},
		{Frag{ID: 1<<32 - 1, Index: 1, Count: 2, Part: samples.OfSize(1000)}, "\x8f\xff\xff\xff\x7f\x01\x02" + samples.OfSize(1000)},
		{Frag{ID: 1 << 32, Index: 0, Count: 1, Part: samples.OfSize(1000)}, most32 + "\x00\x01" + samples.OfSize(1000)},
	} {
		if got := Encode(x.f); got != x.want {
			t.Errorf("Encode(%s) = %x, not %x", short(x.f), got, x.want)
		}
		decodes(t, "what is encoded", x.want, x.f, api.OK)
	}
}

func TestEncodeOfWhatIsNotRight(t *testing.T) {
	for _, f := range several() {
		for _, x := range odd(f) {
			if got := Encode(x); (got == "") != !isRight(x) {
				t.Errorf("Encode(%s) has %d bytes", short(x), len(got))
			}
		}
	}
}

// TestDecodeOfPartsThatAreCutOff: up to the last one of the three numbers, behind it, and within the Part.
func TestDecodeOfPartsThatAreCutOff(t *testing.T) {
	for _, f := range several() {
		whole := bytesOf(f)
		ahead := len(whole) - len(f.Part)
		for i := range len(whole) {
			switch {
			case i < ahead:
				refused(t, "one that is cut off within its numbers", whole[:i], api.ErrShort)
			case i == ahead:
				refused(t, "one of no bytes", whole[:i], api.ErrForm)
			default:
				less := f
				less.Part = f.Part[:i-ahead]
				decodes(t, "one of fewer bytes", whole[:i], less, api.OK)
			}
		}
	}
}

// TestDecodeOfBytesBehind: they are the Part's, as many as may be.
func TestDecodeOfBytesBehind(t *testing.T) {
	for _, f := range several() {
		s := bytesOf(f)
		for more := 1; more <= 1001; more++ {
			longer := f
			longer.Part += samples.OfSize(more)
			if len(longer.Part) <= 1000 {
				decodes(t, "one of more bytes", s+samples.OfSize(more), longer, api.OK)
			} else {
				refused(t, "one of too many bytes", s+samples.OfSize(more), api.ErrForm)
			}
		}
		refused(t, "one of a great many bytes", s+samples.OfSize(1<<20), api.ErrForm)
	}
}

// numbersOf are the bytes of a part's three numbers, one by one.
func numbersOf(f Frag) []string {
	return []string{vint.Put(f.ID), vint.Put(uint64(f.Index)), vint.Put(uint64(f.Count))}
}

// around are the bytes of a part ahead of one of its numbers, and those behind it.
func around(f Frag, place int) (string, string) {
	l := numbersOf(f)
	return strings.Join(l[:place], ""), strings.Join(l[place+1:], "") + f.Part
}

// TestDecodeOfNumbersThatAreNone: in the place of each number, with and without what is behind.
func TestDecodeOfNumbersThatAreNone(t *testing.T) {
	for _, f := range several() {
		for place := range 3 {
			ahead, behind := around(f, place)
			for _, s := range samples.NoNumbers() {
				refused(t, "what is no number", ahead+s+behind, api.ErrForm)
				refused(t, "what is no number, at the end", ahead+s, api.ErrForm)
			}
			for _, s := range samples.ShortNumbers() {
				refused(t, "a number that ends too early", ahead+s, api.ErrShort)
			}
		}
	}
}

// TestDecodeOfNumbersBeyondBounds: above 2^32, and within that; in each place that is told when all numbers are read.
func TestDecodeOfNumbersBeyondBounds(t *testing.T) {
	beyond := append(samples.Above32(), 17, 18, 127, 128, 256, 257, 1<<31, 1<<32-1, 1<<32)
	for _, f := range several() {
		for place, l := range [][]uint64{append(samples.Above32(), 0), append(beyond, uint64(f.Count), 16), append(beyond, 0)} {
			ahead, behind := around(f, place)
			for _, n := range l {
				s := ahead + vint.Put(n)
				refused(t, "a number beyond its bounds", s+behind, api.ErrForm)
				if place < 2 {
					refused(t, "a number beyond its bounds, at the end", s, api.ErrShort)
					refused(t, "a number beyond its bounds, and one that is cut off", s+"\x81", api.ErrShort)
					refused(t, "a number beyond its bounds, and what is none", s+"\x80\x01", api.ErrForm)
				} else {
					refused(t, "a number beyond its bounds, and no bytes", s, api.ErrForm)
				}
			}
		}
	}
}

func TestDecodeOfNumbersAtBounds(t *testing.T) {
	for _, x := range []struct {
		s    string
		want Frag
	}{
		{"\x01\x00\x01a", Frag{ID: 1, Index: 0, Count: 1, Part: "a"}},
		{most32 + "\x00\x01a", Frag{ID: 1 << 32, Index: 0, Count: 1, Part: "a"}},
		{"\x01\x0f\x10a", Frag{ID: 1, Index: 15, Count: 16, Part: "a"}},
		{"\x01\x00\x10a", Frag{ID: 1, Index: 0, Count: 16, Part: "a"}},
		{"\x01\x0e\x0fa", Frag{ID: 1, Index: 14, Count: 15, Part: "a"}},
		{"\x00\x00\x01a", Frag{}},
		{above32 + "\x00\x01a", Frag{}},
		{"\x01\x01\x01a", Frag{}},
		{"\x01\x10\x10a", Frag{}},
		{"\x01\x10\x11a", Frag{}},
		{"\x01\x00\x11a", Frag{}},
		{"\x01\x00\x00a", Frag{}},
		{"\x01\x00\x01", Frag{}},
	} {
		wantErr := api.OK
		if x.want == (Frag{}) {
			wantErr = api.ErrForm
		}
		decodes(t, "numbers at their bounds", x.s, x.want, wantErr)
	}
}

func TestDecodeTellsFirstError(t *testing.T) {
	for _, x := range []struct {
		why, s string
		want   api.Errno
	}{
		{"no bytes", "", api.ErrShort},
		{"ID above 2^32, and nothing behind", above32, api.ErrShort},
		{"ID above 2^32, Index cut off", above32 + "\x81", api.ErrShort},
		{"ID above 2^32, Count cut off", above32 + "\x00\x81", api.ErrShort},
		{"ID above 2^32, Count missing", above32 + "\x00", api.ErrShort},
		{"Index above 2^32, Count cut off", "\x01" + above32 + "\x81", api.ErrShort},
		{"Index above 2^32, Count missing", "\x01" + above32, api.ErrShort},
		{"ID and Index above 2^32, Count cut off", above32 + above32 + "\x81", api.ErrShort},
		{"all above 2^32", above32 + above32 + above32 + "a", api.ErrForm},
		{"ID cut off", "\x81", api.ErrShort},
		{"ID as no number, Index missing", "\x80", api.ErrForm},
		{"ID as no number, Index cut off", "\x80\x81", api.ErrForm},
		{"ID above 2^32, Index as no number", above32 + "\x80", api.ErrForm},
		{"ID above 2^32, Index cut off within what would be Count", above32 + "\x81\x82", api.ErrShort},
		{"ID of 0, Index cut off", "\x00\x81", api.ErrShort},
		{"ID of 0, Index missing", "\x00", api.ErrShort},
		{"ID of 0, Index as no number, Count missing", "\x00\x80", api.ErrForm},
		{"Index as no number, Count cut off", "\x01\x80\x81", api.ErrForm},
		{"Index cut off, that would be above 2^32", "\x01\x90\x80\x80\x80", api.ErrShort},
		{"Count cut off, that would be above 2^32", "\x01\x00\x90\x80\x80\x80", api.ErrShort},
		{"Index of 16, Count cut off", "\x01\x10\x81", api.ErrShort},
		{"Index of 16, Count missing", "\x01\x10", api.ErrShort},
		{"Count of 0, and no bytes", "\x01\x00\x00", api.ErrForm},
		{"Count above 2^32, and no bytes", "\x01\x00" + above32, api.ErrForm},
		{"Count of 17, and too many bytes", "\x01\x00\x11" + samples.OfSize(1001), api.ErrForm},
		{"too many bytes, of which Index is cut off", "\x01" + strings.Repeat("\x81", 5) + "\x80", api.ErrShort},
		{"a great many digits", strings.Repeat("\xff", 5000), api.ErrForm},
		{"a great many digits behind ID", "\x01" + strings.Repeat("\xff", 5000), api.ErrForm},
	} {
		refused(t, x.why, x.s, x.want)
	}
}

// TestDecodeOfTextsOfFewBytes holds what Decode answers against the promise's own words, of every text of at most six bytes, of those of a few.
func TestDecodeOfTextsOfFewBytes(t *testing.T) {
	samples.Texts("\x00\x01\x02\x03\x10\x11\x80\x81", 6, func(s string) { holds(t, "few bytes", s) })
}

// TestDecodeOfAllShortTexts does so of every text of at most two bytes, and of those behind one number and two.
func TestDecodeOfAllShortTexts(t *testing.T) {
	samples.Texts(samples.EachByte(), 2, func(s string) {
		holds(t, "short", s)
		holds(t, "short, behind an ID", "\x07"+s)
		holds(t, "short, behind an ID and an Index", "\x07\x01"+s)
		holds(t, "short, ahead of a Part", s+"\x10cd")
	})
}

// TestDecodeOfBytesThatAreChanged does so of parts of which a byte is another one, is not there, or is there twice.
func TestDecodeOfBytesThatAreChanged(t *testing.T) {
	for _, f := range several() {
		s := bytesOf(f)
		for i := range min(len(s), 20) {
			for b := range 256 {
				holds(t, "a byte changed", s[:i]+string([]byte{byte(b)})+s[i+1:])
				holds(t, "a byte put in", s[:i]+string([]byte{byte(b)})+s[i:])
			}
			holds(t, "a byte left out", s[:i]+s[i+1:])
		}
	}
}

// TestDecodeOfManyTexts does so of bytes of many parts, some of which may not be, with some of these bytes changed.
func TestDecodeOfManyTexts(t *testing.T) {
	r := rand.New(rand.NewSource(11))
	for range 50000 {
		s := []byte(bytesOf(some(r)))
		for r.Intn(3) == 0 {
			s[r.Intn(min(len(s), 12))] = byte(r.Intn(256))
		}
		holds(t, "some bytes", string(s[:len(s)-r.Intn(2)*r.Intn(len(s))]))
	}
}

func TestTextsAreNewMemory(t *testing.T) {
	for _, f := range several() {
		s := Encode(f)
		got, err := Decode(s)
		if got != f || err != api.OK {
			t.Fatalf("Decode of what %s is encoded to = %s, %d", short(f), short(got), err)
		}
		if within(got.Part, s) {
			t.Errorf("the Part of %s stands within what was handed in", short(f))
		}
		if within(s, f.Part) || within(Encode(f), s) {
			t.Errorf("what %s is encoded to stands where something else does", short(f))
		}
	}
}

// TestOneAnswer: whatever was asked between.
func TestOneAnswer(t *testing.T) {
	for _, f := range several() {
		want, _ := cut(f.Part, f.ID, 100)
		for _, other := range several() {
			looks(t, "another one between", Frag{ID: other.ID, Part: other.Part}, false)
			cutsNot(t, "another one between", other.Part, other.ID, 0, api.ErrArg)
			joinsNot(t, "another one between", append(slices.Clone(want), other), api.ErrForm)
			refused(t, "another one between", "\x81", api.ErrShort)
			looks(t, "asked again", f, true)
			cuts(t, "asked again", f.Part, f.ID, 100, want, api.OK)
			joins(t, "asked again", want, f.Part, api.OK)
			decodes(t, "asked again", bytesOf(f), f, api.OK)
		}
	}
}

// P11.4

// TestWhatIsCutIsJoinedAsItWas: whatever the size, and by way of bytes.
func TestWhatIsCutIsJoinedAsItWas(t *testing.T) {
	for _, length := range []int{1, 2, 16, 17, 255, 256, 257, 1000, 1001, 2048, 4095, 4096} {
		for size := 1; size <= 1000; size++ {
			s := samples.OfSize(length)
			l, err := Cut(s, 300, size)
			if err != api.OK {
				continue
			}
			var there []Frag
			for _, f := range l {
				same, err := Decode(Encode(f))
				if same != f || err != api.OK {
					t.Errorf("%s is encoded, and decoded to %s, %d", short(f), short(same), err)
				}
				there = append(there, same)
			}
			joins(t, "what was cut, encoded and decoded", there, s, api.OK)
		}
	}
}

// each calls f with a great many parts that may be, each once.
func each(f func(f Frag)) {
	for _, id := range []uint64{1, 2, 127, 128, 129, 255, 300, 16384, 1 << 31, 1 << 32} {
		for count := 1; count <= 16; count++ {
			for index := range count {
				for _, part := range []string{"\x00", "\x01", "\x00\x01", "\x01\x00", "\x00\x01\x01", "a", "\x80", "\x81\x00", "\x10\x10\x10", samples.OfSize(1000)} {
					f(Frag{ID: id, Index: index, Count: count, Part: part})
				}
			}
		}
	}
}

func TestWhatIsEncodedIsDecodedAsItWas(t *testing.T) {
	each(func(f Frag) {
		decodes(t, "what is encoded", Encode(f), f, api.OK)
	})
}

// TestUnlikePartsHaveUnlikeBytes: so bytes are one part, or none.
func TestUnlikePartsHaveUnlikeBytes(t *testing.T) {
	of := map[string]Frag{}
	each(func(f Frag) {
		s := Encode(f)
		if other, ok := of[s]; ok || s == "" {
			t.Errorf("%s and %s have the same bytes, %x", short(f), short(other), s)
		}
		of[s] = f
	})
}
