package msg

import (
	"math"
	"math/rand"
	"reflect"
	"slices"
	"strings"
	"testing"
	"unsafe"

	"sough/api"
	"sough/offer"
	"sough/samples"
	"sough/vint"
)

// eight is an offer of as many versions as there may be, the edges among them.
const eight = "\xff\xfe\x80\x7f\x10\x03\x02\x01"

// The bytes of 2^32, of the number above it, and of 2^64, that is none.
const (
	most32   = "\x90\x80\x80\x80\x00"
	above32  = "\x90\x80\x80\x80\x01"
	noNumber = "\x82\x80\x80\x80\x80\x80\x80\x80\x80\x00"
)

// kinds are those that there are.
func kinds() []int { return []int{Init, Resp, Reject, Data} }

// noKinds are numbers that are none, also some whose last bits are those of one.
func noKinds() []int {
	return []int{0, -1, -2, -3, -4, -5, 5, 6, 100, 127, 128, 129, 257, 258, 260, 1<<16 + 1, 1 << 31, 1 << 32, 1<<32 + 1, 1<<32 + 4, -1 << 32, 2 - 1<<32, math.MaxInt, math.MinInt, math.MinInt + 1}
}

// has are the fields of a kind, in the order that the chapter tells.
func has(kind int) []string {
	switch kind {
	case Init:
		return []string{"From", "Offer", "Slot", "E", "EK", "Box", "C1", "C2"}
	case Resp:
		return []string{"From", "To", "E", "Box", "C1"}
	case Reject:
		return []string{"To", "Code"}
	case Data:
		return []string{"To", "Epoch", "N", "C1"}
	}
	return nil
}

// fields are those of all kinds.
func fields() []string {
	return []string{"From", "To", "Offer", "Slot", "Code", "E", "EK", "Box", "C1", "C2", "Epoch", "N"}
}

// isName tells whether a field is a term's name.
func isName(field string) bool {
	return slices.Contains([]string{"E", "EK", "Box", "C1", "C2"}, field)
}

// with is a message that has something else in a field: a text in Offer, a number in any other one.
func with(m Msg, field string, x any) Msg {
	v := reflect.ValueOf(&m).Elem().FieldByName(field)
	v.Set(reflect.ValueOf(x).Convert(v.Type()))
	return m
}

// in is what stands in a field of a message.
func in(m Msg, field string) any { return reflect.ValueOf(m).FieldByName(field).Interface() }

// numberIn is what stands in a field of a message that is not Offer, a number below 0 as one above all others.
func numberIn(m Msg, field string) uint64 {
	v := reflect.ValueOf(m).FieldByName(field)
	if v.CanInt() {
		return uint64(v.Int())
	}
	return v.Uint()
}

// bounds are the least and the greatest number that may stand in a field.
func bounds(field string) (uint64, uint64) {
	switch field {
	case "From", "To":
		return 1, 4294967296
	case "Slot":
		return 0, 1
	case "Code":
		return 1, 15
	case "Epoch":
		return 0, 1000
	case "N":
		return 0, 255
	}
	return 1, 1048576
}

// isRight tells by the chapter's words whether a message may be.
func isRight(m Msg) bool {
	of := has(m.Kind)
	for _, field := range fields() {
		switch {
		case !slices.Contains(of, field):
			if !reflect.ValueOf(in(m, field)).IsZero() {
				return false
			}
		case field == "Offer":
			if !offer.Right(m.Offer) {
				return false
			}
		default:
			if least, most := bounds(field); numberIn(m, field) < least || numberIn(m, field) > most {
				return false
			}
		}
	}
	return len(of) > 0
}

// pieces are the bytes of a message's kind, and of each field that it has, one by one, whether it may be or not.
func pieces(m Msg) []string {
	l := []string{vint.Put(uint64(m.Kind))}
	for _, field := range has(m.Kind) {
		if field == "Offer" {
			l = append(l, vint.PutText(m.Offer))
		} else {
			l = append(l, vint.Put(numberIn(m, field)))
		}
	}
	return l
}

// bytesOf are all of these.
func bytesOf(m Msg) string { return strings.Join(pieces(m), "") }

// namesOf are by the promise's words what Names tells of a message.
func namesOf(m Msg) []int {
	var l []int
	for _, field := range has(m.Kind) {
		if isName(field) {
			l = append(l, in(m, field).(int))
		}
	}
	return l
}

// decoded is by the promise's words what Decode tells of bytes.
func decoded(s string) (Msg, api.Errno) {
	if len(s) > 4096 {
		return Msg{}, api.ErrBig
	}
	kind, at, err := vint.Get(s, 0)
	if err != api.OK {
		return Msg{}, err
	}
	if kind < 1 || kind > 4 {
		return Msg{}, api.ErrForm
	}
	m := Msg{Kind: int(kind)}
	for _, field := range has(m.Kind) {
		var n uint64
		if field == "Offer" {
			m.Offer, at, err = vint.GetText(s, at, 8)
		} else {
			n, at, err = vint.Get(s, at)
			m = with(m, field, n)
		}
		if err == api.OK && n > 4294967296 {
			err = api.ErrForm
		}
		if err != api.OK {
			return Msg{}, err
		}
	}
	if at < len(s) || !isRight(m) {
		return Msg{}, api.ErrForm
	}
	return m, api.OK
}

// example is one of each kind that may be; what stands in each field is unlike what stands in the others.
func example(kind int) Msg {
	switch kind {
	case Init:
		return Msg{Kind: Init, From: 2, Offer: "\x05\x03", Slot: 1, E: 6, EK: 7, Box: 8, C1: 9, C2: 10}
	case Resp:
		return Msg{Kind: Resp, From: 2, To: 3, E: 6, Box: 8, C1: 9}
	case Reject:
		return Msg{Kind: Reject, To: 3, Code: 11}
	}
	return Msg{Kind: Data, To: 3, Epoch: 4, N: 5, C1: 9}
}

// great is one of each kind that may be, with the greatest number in each field.
func great(kind int) Msg {
	m := Msg{Kind: kind}
	for _, field := range has(kind) {
		if field == "Offer" {
			m.Offer = eight
			continue
		}
		_, most := bounds(field)
		m = with(m, field, most)
	}
	return m
}

// several are some messages that may be, of each kind, with numbers of one byte and of several.
func several() []Msg {
	var l []Msg
	for _, kind := range kinds() {
		l = append(l, example(kind), great(kind))
	}
	return append(l,
		Msg{Kind: Init, From: 1, Offer: "\x01", E: 1, EK: 1, Box: 1, C1: 1, C2: 1},
		Msg{Kind: Init, From: 300, Offer: "\xff\x80\x01", Slot: 1, E: 127, EK: 128, Box: 129, C1: 16383, C2: 16384},
		Msg{Kind: Resp, From: 1, To: 1, E: 1, Box: 1, C1: 1},
		Msg{Kind: Resp, From: 128, To: 1 << 28, E: 300, Box: 300, C1: 300},
		Msg{Kind: Reject, To: 1, Code: 1},
		Msg{Kind: Reject, To: 1 << 21, Code: 15},
		Msg{Kind: Data, To: 1, C1: 1},
		Msg{Kind: Data, To: 1 << 31, Epoch: 128, N: 127, C1: 1 << 19},
	)
}

// fits are some of what may stand in a field: the edges, where bytes grow longer, and some between.
func fits(field string) []any {
	switch {
	case field == "Offer":
		return []any{"\x01", "\xff", "\x80\x7f", "\x05\x03\x01", "\xff\x80\x01", "\x08\x07\x06\x05\x04\x03\x02", eight}
	case field == "Slot":
		return []any{0, 1}
	case field == "Code":
		return []any{1, 2, 7, 11, 14, 15}
	case field == "Epoch":
		return []any{0, 1, 2, 127, 128, 255, 256, 999, 1000}
	case field == "N":
		return []any{0, 1, 2, 127, 128, 254, 255}
	case isName(field):
		return []any{1, 2, 127, 128, 255, 256, 1000, 1001, 16383, 16384, 65536, 1<<20 - 1, 1 << 20}
	}
	return []any{1, 2, 127, 128, 255, 256, 16384, 1 << 20, 1<<20 + 1, 1<<31 - 1, 1 << 31, 1<<32 - 1, 1 << 32}
}

// fitsNot are some of what may not stand in a field: what is just beyond its bounds, very great and very small numbers, and some whose last bits would fit.
func fitsNot(field string) []any {
	switch {
	case field == "Offer":
		return []any{"", "\x00", "\x01\x02", "\x02\x02", "\x02\x00", "\x00\x02", "\x7f\x80", "\x05\x03\x04", "\xff\xfe\x80\x7f\x10\x03\x02\x02", eight[:7] + "\x00", "\x09\x08\x07\x06\x05\x04\x03\x02\x01", strings.Repeat("\x01", 1000)}
	case field == "Slot":
		return append(small(-1), 2, 3, 127, 128, 256, 257, 1<<32+1, 1<<62)
	case field == "Code":
		return append(small(0), 16, 17, 31, 257, 1<<32+1, 1<<62+1)
	case field == "Epoch":
		return []any{1001, 1002, 1024, 65536, uint64(1 << 32), uint64(1<<32 + 1), uint64(1 << 63), uint64(math.MaxUint64)}
	case field == "N":
		return []any{256, 257, 1000, 65536, uint64(1 << 32), uint64(1<<32 + 1), uint64(1 << 63), uint64(math.MaxUint64)}
	case isName(field):
		return append(small(0), 1<<20+1, 1<<20+2, 1<<21, 1<<31, 1<<32, 1<<32+1, 1<<33, 1<<62+1)
	}
	return []any{0, uint64(1<<32 + 1), uint64(1<<32 + 2), uint64(1 << 33), uint64(1<<33 + 1), uint64(1 << 63), uint64(1<<63 + 1), uint64(math.MaxUint64)}
}

// small are numbers from one on downwards, and the greatest one, that is as far away from 0.
func small(from int) []any {
	return []any{from, -1, -2, -255, -256, 1 - 1<<32, -1 << 32, -1 << 62, math.MinInt + 1, math.MinInt, math.MaxInt}
}

// looks looks what Right, Encode and Names tell of a message.
func looks(t *testing.T, why string, m Msg, want bool) {
	t.Helper()
	if got := Right(m); got != want {
		t.Errorf("%s: Right(%#v) is %t", why, m, got)
	}
	wantBytes := ""
	if want {
		wantBytes = bytesOf(m)
	}
	if got := Encode(m); got != wantBytes {
		t.Errorf("%s: Encode(%#v) = %x, not %x", why, m, got, wantBytes)
	}
	if got, wantNames := Names(m), namesOf(m); !slices.Equal(got, wantNames) {
		t.Errorf("%s: Names(%#v) = %v, not %v", why, m, got, wantNames)
	}
}

// decodes looks what Decode tells of bytes.
func decodes(t *testing.T, why, s string, want Msg, wantErr api.Errno) {
	t.Helper()
	if got, err := Decode(s); got != want || err != wantErr {
		t.Errorf("%s: Decode(%x) = %#v, %d, not %#v, %d", why, s, got, err, want, wantErr)
	}
}

// refused looks whether bytes are refused, with nothing beside the error.
func refused(t *testing.T, why, s string, want api.Errno) {
	t.Helper()
	decodes(t, why, s, Msg{}, want)
}

// holds looks whether Decode tells of bytes what the promise's own words do; and what is decoded, encoded, are these.
func holds(t *testing.T, why, s string) {
	t.Helper()
	want, wantErr := decoded(s)
	decodes(t, why, s, want, wantErr)
	if m, err := Decode(s); err == api.OK && Encode(m) != s {
		t.Errorf("%s: %x is decoded to %#v, and that encoded to %x", why, s, m, Encode(m))
	}
}

func TestExampleOfTheChapter(t *testing.T) {
	m := Msg{Kind: Data, To: 5, Epoch: 0, N: 2, C1: 300}
	s := "\x04\x05\x00\x02\x82\x2c"
	if got := Encode(m); got != s {
		t.Errorf("Encode(%#v) = %x, not %x", m, got, s)
	}
	decodes(t, "the example", s, m, api.OK)
}

// P10.1

func TestOrdinaryMessagesAreRight(t *testing.T) {
	for _, m := range several() {
		looks(t, "an ordinary message", m, true)
	}
}

func TestKindsAreNumberedFromOne(t *testing.T) {
	if !slices.Equal([]int{Init, Resp, Reject, Data, Kinds}, []int{1, 2, 3, 4, 5}) {
		t.Errorf("kinds are %v, up to below %d", kinds(), Kinds)
	}
}

// TestOtherKindsAreNotRight: alone, with what any kind has, and with something in one field.
func TestOtherKindsAreNotRight(t *testing.T) {
	for _, kind := range noKinds() {
		looks(t, "no kind, alone", Msg{Kind: kind}, false)
		for _, m := range several() {
			looks(t, "no kind, with what one has", with(m, "Kind", kind), false)
		}
		for _, field := range fields() {
			looks(t, "no kind, with one field", with(Msg{Kind: kind}, field, fits(field)[0]), false)
		}
	}
}

func TestZeroMessageIsNotRight(t *testing.T) {
	looks(t, "the zero message", Msg{}, false)
	for _, kind := range kinds() {
		looks(t, "a kind alone", Msg{Kind: kind}, false)
	}
}

// TestRightOfBounds: of each field that a kind has, one by one, and what stands in the others being ordinary, or the greatest.
func TestRightOfBounds(t *testing.T) {
	for _, kind := range kinds() {
		for _, field := range has(kind) {
			for _, m := range []Msg{example(kind), great(kind)} {
				for _, x := range fits(field) {
					looks(t, "what fits in "+field, with(m, field, x), true)
				}
				for _, x := range fitsNot(field) {
					looks(t, "what fits not in "+field, with(m, field, x), false)
				}
			}
		}
	}
}

// TestRightOfFieldsThatKindHasNot: one by one, also with what fits there in another kind.
func TestRightOfFieldsThatKindHasNot(t *testing.T) {
	for _, kind := range kinds() {
		for _, field := range fields() {
			if slices.Contains(has(kind), field) {
				continue
			}
			for _, x := range slices.Concat(fits(field), fitsNot(field)) {
				m := with(example(kind), field, x)
				looks(t, field+", that the kind has not", m, m == example(kind))
			}
		}
	}
}

// TestRightOfOtherKindsFields: what one kind has, told to be of another one.
func TestRightOfOtherKindsFields(t *testing.T) {
	for _, m := range several() {
		for _, kind := range kinds() {
			looks(t, "of another kind", with(m, "Kind", kind), kind == m.Kind)
		}
	}
}

// TestRightOfTwoFaults: one field with a fault does not hide that another one fits.
func TestRightOfTwoFaults(t *testing.T) {
	for _, kind := range kinds() {
		for i, field := range fields() {
			for _, other := range fields()[i+1:] {
				for _, x := range fitsNot(field) {
					m := with(with(example(kind), field, x), other, fitsNot(other)[0])
					looks(t, "two fields", m, isRight(m))
				}
			}
		}
	}
}

// TestMessagesOfManyValues holds what Right, Encode and Names answer against the chapter's own words.
func TestMessagesOfManyValues(t *testing.T) {
	r := rand.New(rand.NewSource(10))
	for range 20000 {
		m := some(r)
		looks(t, "some message", m, isRight(m))
	}
}

// some is some message, that more often may be than not.
func some(r *rand.Rand) Msg {
	m := Msg{Kind: 1 + r.Intn(4)}
	for _, field := range has(m.Kind) {
		l := fits(field)
		m = with(m, field, l[r.Intn(len(l))])
	}
	for r.Intn(3) == 0 {
		field := fields()[r.Intn(len(fields()))]
		l := append(fitsNot(field), fits(field)...)
		m = with(m, field, l[r.Intn(len(l))])
	}
	return m
}

func TestEncodeTellsBytes(t *testing.T) {
	for _, x := range []struct {
		m    Msg
		want string
	}{
		{Msg{Kind: Init, From: 1, Offer: "\x01", E: 2, EK: 3, Box: 4, C1: 5, C2: 6}, "\x01\x01\x01\x01\x00\x02\x03\x04\x05\x06"},
		{Msg{Kind: Init, From: 300, Offer: "\x05\x03\x01", Slot: 1, E: 127, EK: 128, Box: 300, C1: 16384, C2: 1 << 20}, "\x01\x82\x2c\x03\x05\x03\x01\x01\x7f\x81\x00\x82\x2c\x81\x80\x00\xc0\x80\x00"},
		{Msg{Kind: Init, From: 1 << 32, Offer: eight, E: 1, EK: 1, Box: 1, C1: 1, C2: 1}, "\x01" + most32 + "\x08" + eight + "\x00\x01\x01\x01\x01\x01"},
		{Msg{Kind: Resp, From: 1, To: 2, E: 3, Box: 4, C1: 5}, "\x02\x01\x02\x03\x04\x05"},
		{Msg{Kind: Resp, From: 128, To: 1 << 32, E: 300, Box: 129, C1: 1 << 20}, "\x02\x81\x00" + most32 + "\x82\x2c\x81\x01\xc0\x80\x00"},
		{Msg{Kind: Reject, To: 1, Code: 11}, "\x03\x01\x0b"},
		{Msg{Kind: Reject, To: 1 << 32, Code: 15}, "\x03" + most32 + "\x0f"},
		{Msg{Kind: Data, To: 1, C1: 1}, "\x04\x01\x00\x00\x01"},
		{Msg{Kind: Data, To: 300, Epoch: 1000, N: 255, C1: 1 << 20}, "\x04\x82\x2c\x87\x68\x81\x7f\xc0\x80\x00"},
	} {
		if got := Encode(x.m); got != x.want {
			t.Errorf("Encode(%#v) = %x, not %x", x.m, got, x.want)
		}
		decodes(t, "what is encoded", x.want, x.m, api.OK)
	}
}

// TestNamesInOrder: of messages that may be, and of others.
func TestNamesInOrder(t *testing.T) {
	m := Msg{E: 5, EK: 4, Box: 3, C1: 2, C2: 1}
	odd := Msg{From: 1 << 40, Offer: "\x01\x02", Slot: -7, Code: 99, E: -1, EK: 0, Box: math.MaxInt, C1: math.MinInt, C2: 1 << 40, Epoch: 5000, N: 300}
	for _, x := range []struct {
		kind      int
		want, odd []int
	}{
		{Init, []int{5, 4, 3, 2, 1}, []int{-1, 0, math.MaxInt, math.MinInt, 1 << 40}},
		{Resp, []int{5, 3, 2}, []int{-1, math.MaxInt, math.MinInt}},
		{Reject, nil, nil},
		{Data, []int{2}, []int{math.MinInt}},
		{0, nil, nil}, {-1, nil, nil}, {Kinds, nil, nil}, {math.MaxInt, nil, nil}, {math.MinInt, nil, nil},
	} {
		m.Kind, odd.Kind = x.kind, x.kind
		if got := Names(m); !slices.Equal(got, x.want) {
			t.Errorf("Names(%#v) = %v, not %v", m, got, x.want)
		}
		if got := Names(odd); !slices.Equal(got, x.odd) {
			t.Errorf("Names(%#v) = %v, not %v", odd, got, x.odd)
		}
	}
	if got := Names(Msg{Kind: Init}); !slices.Equal(got, []int{0, 0, 0, 0, 0}) {
		t.Errorf("Names of an Init without any = %v", got)
	}
	if got := Names(Msg{Kind: Resp, E: 7, Box: 7, C1: 7}); !slices.Equal(got, []int{7, 7, 7}) {
		t.Errorf("Names of a Resp with one name three times = %v", got)
	}
}

func TestNamesAreNewMemory(t *testing.T) {
	for _, m := range several() {
		want := namesOf(m)
		first, second := Names(m), Names(m)
		for _, l := range [][]int{first, first[:cap(first)]} {
			for i := range l {
				l[i] = -99
			}
		}
		if !slices.Equal(second, want) || !slices.Equal(Names(m), want) {
			t.Errorf("once what Names(%#v) told was changed, it tells %v, and %v", m, second, Names(m))
		}
	}
}

// TestOneAnswer: whatever was asked between.
func TestOneAnswer(t *testing.T) {
	for _, m := range several() {
		s := Encode(m)
		for _, other := range several() {
			looks(t, "another one between", with(other, "To", 0), isRight(with(other, "To", 0)))
			looks(t, "asked again", m, true)
			decodes(t, "asked again", s, m, api.OK)
		}
	}
}

// P10.2

func TestDecodeTellsWhatWasEncoded(t *testing.T) {
	for _, m := range several() {
		decodes(t, "an ordinary message", Encode(m), m, api.OK)
	}
}

func TestDecodeOfMessagesThatAreCutOff(t *testing.T) {
	for _, m := range several() {
		whole := bytesOf(m)
		for i := range len(whole) {
			refused(t, "one that is cut off", whole[:i], api.ErrShort)
		}
	}
}

func TestDecodeOfBytesThatAreLeft(t *testing.T) {
	for _, m := range several() {
		s := bytesOf(m)
		for b := range 256 {
			refused(t, "a byte more", s+string([]byte{byte(b)}), api.ErrForm)
		}
		refused(t, "itself behind it", s+s, api.ErrForm)
		refused(t, "a byte ahead", "\x00"+s, api.ErrForm)
	}
}

// TestDecodeOfOtherKinds: with and without bytes behind, whatever these are.
func TestDecodeOfOtherKinds(t *testing.T) {
	for _, n := range []uint64{0, 5, 6, 100, 127, 128, 129, 257, 260, 1<<32 - 1, 1 << 32, 1<<32 + 1, 1<<32 + 4, 1 << 63, 1<<63 + 1, math.MaxUint64} {
		kind := vint.Put(n)
		refused(t, "no kind, alone", kind, api.ErrForm)
		refused(t, "no kind, and a number that is cut off", kind+"\x81", api.ErrForm)
		for _, m := range several() {
			refused(t, "no kind, and what one has", kind+strings.Join(pieces(m)[1:], ""), api.ErrForm)
		}
	}
	for s, want := range map[string]api.Errno{
		"":                             api.ErrShort,
		"\x81":                         api.ErrShort,
		"\x84":                         api.ErrShort,
		"\x81\x80":                     api.ErrShort,
		"\x80":                         api.ErrForm,
		"\x80\x04\x05\x00\x02\x01":     api.ErrForm,
		noNumber:                       api.ErrForm,
		noNumber + "\x05\x00\x02":      api.ErrForm,
		strings.Repeat("\xff", 20):     api.ErrForm,
		"\x81\x04\x05\x00\x02\x01":     api.ErrForm,
		"\x00\x04\x05\x00\x02\x01":     api.ErrForm,
		"\x90\x80\x80\x80\x04\x05\x00": api.ErrForm,
	} {
		refused(t, "a kind that is none", s, want)
	}
}

// parted are the bytes of a message ahead of one of its fields, and those behind it.
func parted(m Msg, place int) (string, string) {
	l := pieces(m)
	return strings.Join(l[:place+1], ""), strings.Join(l[place+2:], "")
}

// TestDecodeOfNumbersThatAreNone: in the place of each field, Offer's length among them, with and without the others behind.
func TestDecodeOfNumbersThatAreNone(t *testing.T) {
	for _, m := range several() {
		for place, field := range has(m.Kind) {
			ahead, behind := parted(m, place)
			for _, s := range samples.NoNumbers() {
				refused(t, field+" as no number", ahead+s+behind, api.ErrForm)
				refused(t, field+" as no number, at the end", ahead+s, api.ErrForm)
			}
			for _, s := range samples.ShortNumbers() {
				refused(t, field+" that ends too early", ahead+s, api.ErrShort)
			}
		}
	}
}

// TestDecodeOfNumbersAboveAll: above 2^32, that is told ahead of what comes behind, in each field.
func TestDecodeOfNumbersAboveAll(t *testing.T) {
	for _, m := range several() {
		for place, field := range has(m.Kind) {
			if field == "Offer" {
				continue
			}
			ahead, behind := parted(m, place)
			for _, n := range samples.Above32() {
				refused(t, field+" above 2^32", ahead+vint.Put(n)+behind, api.ErrForm)
				refused(t, field+" above 2^32, at the end", ahead+vint.Put(n), api.ErrForm)
				refused(t, field+" above 2^32, and a number that is cut off", ahead+vint.Put(n)+"\x81", api.ErrForm)
			}
		}
	}
}

// TestDecodeOfNumbersBeyondBounds: within 2^32, that is told when all fields are read.
func TestDecodeOfNumbersBeyondBounds(t *testing.T) {
	for _, m := range several() {
		l := has(m.Kind)
		for place, field := range l {
			if field == "Offer" {
				continue
			}
			ahead, behind := parted(m, place)
			least, most := bounds(field)
			for _, n := range []uint64{0, 1, most - 1, most, most + 1, most + 2, 2 * most, 1<<32 - 1, 1 << 32} {
				if n > 1<<32 {
					continue
				}
				s := ahead + vint.Put(n)
				if n >= least && n <= most {
					decodes(t, field+" within its bounds", s+behind, with(m, field, n), api.OK)
					continue
				}
				refused(t, field+" beyond its bounds", s+behind, api.ErrForm)
				refused(t, field+" beyond its bounds, and a byte more", s+behind+"\x00", api.ErrForm)
				if place < len(l)-1 {
					refused(t, field+" beyond its bounds, at the end", s, api.ErrShort)
					refused(t, field+" beyond its bounds, and a number that is cut off", s+"\x81", api.ErrShort)
				}
			}
		}
	}
}

func TestDecodeOfOffers(t *testing.T) {
	for _, x := range []struct {
		why, s        string
		whole, behind api.Errno
	}{
		{"an offer of one", "\x01\x05", api.OK, api.ErrShort},
		{"an offer of eight", "\x08" + eight, api.OK, api.ErrShort},
		{"no bytes", "\x00", api.ErrForm, api.ErrShort},
		{"0 alone", "\x01\x00", api.ErrForm, api.ErrShort},
		{"two that rise", "\x02\x01\x02", api.ErrForm, api.ErrShort},
		{"one twice", "\x02\x03\x03", api.ErrForm, api.ErrShort},
		{"eight that rise", "\x08\x01\x02\x03\x04\x05\x06\x07\x08", api.ErrForm, api.ErrShort},
		{"nine", "\x09\x09\x08\x07\x06\x05\x04\x03\x02\x01", api.ErrBig, api.ErrBig},
		{"nine, of which none follow", "\x09", api.ErrBig, api.ErrBig},
		{"128, of which one follows", "\x81\x00\x01", api.ErrBig, api.ErrBig},
		{"2^32 bytes", most32, api.ErrBig, api.ErrBig},
		{"more than 2^32 bytes", above32, api.ErrBig, api.ErrBig},
		{"2^63 bytes", vint.Put(1 << 63), api.ErrBig, api.ErrBig},
		{"2^64 - 1 bytes", vint.Put(math.MaxUint64), api.ErrBig, api.ErrBig},
		{"2^64 bytes", noNumber, api.ErrForm, api.ErrForm},
		{"a length of too many digits", "\x80\x01\x05", api.ErrForm, api.ErrForm},
	} {
		ahead, behind := "\x01\x02", "\x01\x06\x07\x08\x09\x0a"
		want := Msg{}
		if x.whole == api.OK {
			want = with(example(Init), "Offer", x.s[1:])
		}
		decodes(t, x.why, ahead+x.s+behind, want, x.whole)
		refused(t, x.why+", at the end", ahead+x.s, x.behind)
	}
	for size := 1; size <= 8; size++ {
		for there := range size {
			refused(t, "fewer bytes than told", "\x01\x02"+vint.Put(uint64(size))+eight[:there], api.ErrShort)
		}
	}
	refused(t, "a length that is cut off", "\x01\x02\x81", api.ErrShort)
	refused(t, "a length that takes in all that is behind", "\x01\x02\x08\x05\x03\x01\x06\x07\x08\x09", api.ErrShort)
}

func TestDecodeOfManyBytes(t *testing.T) {
	for _, m := range several() {
		s := bytesOf(m)
		for size, want := range map[int]api.Errno{4095: api.ErrForm, 4096: api.ErrForm, 4097: api.ErrBig, 4098: api.ErrBig, 8192: api.ErrBig, 1 << 20: api.ErrBig} {
			refused(t, "a message, and zeros", s+strings.Repeat("\x00", size-len(s)), want)
		}
	}
	for _, first := range []string{"\x00", "\x05", "\x80", "\x81", "\xff", "\x01\x80", "\x02\x81", "\x04" + above32} {
		some := strings.Repeat(first, 4096)
		want, wantErr := decoded(some[:4096])
		decodes(t, "as many bytes as may be", some[:4096], want, wantErr)
		refused(t, "a byte more than may be", some[:4096]+"\x00", api.ErrBig)
	}
	refused(t, "as many digits as may be, that are too many", strings.Repeat("\xff", 4096), api.ErrForm)
}

func TestDecodeTellsFirstError(t *testing.T) {
	for _, x := range []struct {
		why, s string
		want   api.Errno
	}{
		{"From above 2^32, To cut off", "\x02" + above32 + "\x81", api.ErrForm},
		{"From that may be, To cut off", "\x02\x01\x81", api.ErrShort},
		{"From of 0, To cut off", "\x02\x00\x81", api.ErrShort},
		{"From of 0, To above 2^32, E cut off", "\x02\x00" + above32 + "\x81", api.ErrForm},
		{"From above 2^32, and nothing behind", "\x02" + above32, api.ErrForm},
		{"From above 2^32, Offer of nine", "\x01" + above32 + "\x09", api.ErrForm},
		{"From of 2^32, Offer of nine", "\x01" + most32 + "\x09", api.ErrBig},
		{"From of 0, Offer of nine", "\x01\x00\x09", api.ErrBig},
		{"Offer of nine, Slot above 2^32", "\x01\x01\x09\x09\x08\x07\x06\x05\x04\x03\x02\x01" + above32, api.ErrBig},
		{"Offer of nine, Slot as no number", "\x01\x01\x09\x09\x08\x07\x06\x05\x04\x03\x02\x01\x80", api.ErrBig},
		{"Offer that is none, Slot cut off", "\x01\x01\x02\x01\x02\x81", api.ErrShort},
		{"Offer of no bytes, and nothing behind", "\x01\x01\x00", api.ErrShort},
		{"Offer that is none, E as no number", "\x01\x01\x02\x01\x02\x00\x80", api.ErrForm},
		{"Slot of 2, C2 cut off", "\x01\x01\x01\x01\x02\x01\x01\x01\x01\x81", api.ErrShort},
		{"Slot of 2, and bytes left", "\x01\x01\x01\x01\x02\x01\x01\x01\x01\x01\x00", api.ErrForm},
		{"Epoch above 2^32, N cut off", "\x04\x01" + above32 + "\x81", api.ErrForm},
		{"Epoch of 2^32, N cut off", "\x04\x01" + most32 + "\x81", api.ErrShort},
		{"Epoch of 1001, N of 256, C1 missing", "\x04\x01\x87\x69\x82\x00", api.ErrShort},
		{"Epoch of 1001, N of 256, and bytes left", "\x04\x01\x87\x69\x82\x00\x01\x01", api.ErrForm},
		{"Code of 16, and bytes left", "\x03\x01\x10\x00", api.ErrForm},
		{"no kind, and a number above 2^32", "\x05" + above32, api.ErrForm},
		{"no kind, and Offer of nine", "\x05\x01\x09", api.ErrForm},
		{"kind cut off", "\x83", api.ErrShort},
		{"too many bytes, of which the kind is none", strings.Repeat("\x00", 4097), api.ErrBig},
		{"too many bytes, of which the first ones are no number", strings.Repeat("\x80", 4097), api.ErrBig},
		{"too many bytes, of which From is above 2^32", "\x02" + above32 + strings.Repeat("\x81", 4096), api.ErrBig},
	} {
		refused(t, x.why, x.s, x.want)
	}
}

// TestDecodeOfTextsOfFewBytes holds what Decode answers against the promise's own words, of every text of at most six bytes, of those of a few.
func TestDecodeOfTextsOfFewBytes(t *testing.T) {
	samples.Texts("\x00\x01\x02\x03\x04\x10\x80\x81", 6, func(s string) { holds(t, "few bytes", s) })
}

// TestDecodeOfAllShortTexts does so of every text of at most two bytes, and of those behind a Reject's number.
func TestDecodeOfAllShortTexts(t *testing.T) {
	samples.Texts(samples.EachByte(), 2, func(s string) {
		holds(t, "short", s)
		holds(t, "short, behind a Reject", "\x03"+s)
		holds(t, "short, behind what a Data has", "\x04\x01\x00\x00"+s)
	})
}

// TestDecodeOfBytesThatAreChanged does so of messages of which a byte is another one, is not there, or is there twice.
func TestDecodeOfBytesThatAreChanged(t *testing.T) {
	for _, m := range several() {
		s := bytesOf(m)
		for i := range len(s) {
			for b := range 256 {
				holds(t, "a byte changed", s[:i]+string([]byte{byte(b)})+s[i+1:])
				holds(t, "a byte put in", s[:i]+string([]byte{byte(b)})+s[i:])
			}
			holds(t, "a byte left out", s[:i]+s[i+1:])
		}
	}
}

// TestDecodeOfManyTexts does so of bytes of many messages, some of which may not be, with some of these bytes changed.
func TestDecodeOfManyTexts(t *testing.T) {
	r := rand.New(rand.NewSource(10))
	for range 50000 {
		l := pieces(some(r))
		for r.Intn(3) == 0 {
			l[r.Intn(len(l))] = bytesOf(some(r))[:r.Intn(3)]
		}
		s := []byte(strings.Join(l, ""))
		for len(s) > 0 && r.Intn(3) == 0 {
			s[r.Intn(len(s))] = byte(r.Intn(256))
		}
		holds(t, "some bytes", string(s))
	}
}

func TestTextsAreNewMemory(t *testing.T) {
	m := with(example(Init), "Offer", strings.Clone(eight))
	s := Encode(m)
	got, err := Decode(s)
	if got != m || err != api.OK {
		t.Fatalf("Decode(%x) = %#v, %d", s, got, err)
	}
	for i := range len(s) {
		if unsafe.StringData(got.Offer) == unsafe.StringData(s[i:]) {
			t.Errorf("%x stands within what was handed in", got.Offer)
		}
	}
	if unsafe.StringData(Encode(m)) == unsafe.StringData(s) {
		t.Errorf("what is encoded again stands where it stood")
	}
}

// P10.3

// each calls f with a great many messages that may be, of each kind, each once.
func each(f func(m Msg)) {
	var fill func(m Msg, l []string)
	fill = func(m Msg, l []string) {
		if len(l) == 0 {
			f(m)
			return
		}
		for _, x := range few(l[0]) {
			fill(with(m, l[0], x), l[1:])
		}
	}
	for _, kind := range kinds() {
		fill(Msg{Kind: kind}, has(kind))
	}
}

// few are both ends of what fits in a field, and one between.
func few(field string) []any {
	l := fits(field)
	if len(l) == 2 {
		return l
	}
	return []any{l[0], l[3], l[len(l)-1]}
}

func TestWhatIsEncodedIsDecodedAsItWas(t *testing.T) {
	each(func(m Msg) {
		s := Encode(m)
		decodes(t, "what is encoded", s, m, api.OK)
		holds(t, "what is encoded", s)
	})
}

// TestUnlikeMessagesHaveUnlikeBytes: nor do one's bytes begin another one's. (In order, what others begin with stands right ahead of one of these.)
func TestUnlikeMessagesHaveUnlikeBytes(t *testing.T) {
	var l []string
	each(func(m Msg) { l = append(l, Encode(m)) })
	slices.Sort(l)
	for i := 1; i < len(l); i++ {
		if strings.HasPrefix(l[i], l[i-1]) {
			t.Errorf("%x begins %x, of another message", l[i-1], l[i])
		}
	}
}
