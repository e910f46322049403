package offer

import (
	"math"
	"math/rand"
	"slices"
	"strings"
	"testing"
	"unsafe"

	"sough/api"
	"sough/samples"
)

// eight is an offer of as many versions as there may be, the edges and what signs could turn round among them.
const eight = "\xff\xfe\x80\x7f\x10\x03\x02\x01"

// offers are such of each length, of versions of all sizes.
func offers() []string {
	return []string{"\x01", "\xff", "\x80", "\x02\x01", "\xff\x01", "\x80\x7f", "\x05\x03\x01", "\x04\x03\x02\x01", "\xff\x80\x7f\x01", "\x20\x18\x10\x08\x01", "\xfe\xfd\xfc\xfb\xfa\xf9", "\xff\xc0\x80\x40\x20\x10\x08", eight, "\x08\x07\x06\x05\x04\x03\x02\x01", "\xff\xfe\xfd\xfc\xfb\xfa\xf9\xf8"}
}

// noOffers are texts that are none, each with why.
func noOffers() map[string]string {
	l := map[string]string{
		"":                                     "no bytes",
		"\x00":                                 "0 alone",
		"\x00\x00":                             "0 alone, twice",
		"\x01\x02":                             "two that rise",
		"\x7f\x80":                             "two that rise, and would fall with signs",
		"\x05\x03\x04":                         "three, of which the last one rises",
		"\x03\x05\x04":                         "three, of which the second one rises",
		"\x01\x02\x03\x04\x05\x06\x07\x08":     "eight that rise",
		"\x03\x03":                             "one twice",
		"\xff\xff":                             "the greatest one twice",
		"\x05\x03\x03\x01":                     "one twice side by side, within others",
		"\x05\x03\x05":                         "one twice apart",
		"\x05\x03\x01\x03":                     "one twice apart, the last one that too much",
		"\xff\xfe\x80\x7f\x10\x03\x02\x02":     "eight, the last one twice",
		"\xff\xff\xfe\x80\x7f\x10\x03\x02":     "eight, the first one twice",
		"\x09\x08\x07\x06\x05\x04\x03\x02\x01": "nine",
		"\xff" + "\xff\xfe\x80\x7f\x10\x03\x02\x01": "nine bytes, of eight versions",
		eight + "\x00":               "an offer of eight, and 0 behind",
		"\x00" + eight:               "an offer of eight, and 0 ahead",
		strings.Repeat("\x01", 1000): "a great many of one",
		allFalling():                 "all versions there are",
	}
	for _, s := range offers() {
		for place := range len(s) {
			l[s[:place]+"\x00"+s[place+1:]] = "0 in the place of one"
			if len(s) < most {
				l[s[:place]+"\x00"+s[place:]] = "0 between"
			}
		}
		if len(s) < most {
			l[s+"\x00"] = "0 behind"
		}
	}
	return l
}

// allFalling are all versions there are.
func allFalling() string {
	var l []byte
	for version := 255; version >= 1; version-- {
		l = append(l, byte(version))
	}
	return string(l)
}

// isOffer tells by the chapter's words whether a text is an offer.
func isOffer(s string) bool {
	if len(s) < 1 || len(s) > 8 {
		return false
	}
	for i := range len(s) {
		if s[i] == 0 || i > 0 && s[i] >= s[i-1] {
			return false
		}
	}
	return true
}

// offerOf is by the promise's words what Make tells of numbers.
func offerOf(l []int) (string, api.Errno) {
	unlike := slices.Clone(l)
	slices.Sort(unlike)
	unlike = slices.Compact(unlike)
	if len(unlike) == 0 || len(unlike) > 8 || unlike[0] < 1 || unlike[len(unlike)-1] > 255 {
		return "", api.ErrArg
	}
	s := ""
	for _, version := range unlike {
		s = string([]byte{byte(version)}) + s
	}
	return s, api.OK
}

// inCommon is by the promise's words what Both tells of two texts.
func inCommon(a, b string) string {
	if !isOffer(a) || !isOffer(b) {
		return ""
	}
	s := ""
	for i := range len(a) {
		if strings.IndexByte(b, a[i]) >= 0 {
			s += a[i : i+1]
		}
	}
	return s
}

// numbers are an offer's versions.
func numbers(s string) []int {
	var l []int
	for i := range len(s) {
		l = append(l, int(s[i]))
	}
	return l
}

// subsets calls f with each text of some of the bytes of s, as they stand there.
func subsets(s string, f func(some string)) {
	for which := range 1 << len(s) {
		some := ""
		for i := range len(s) {
			if which>>i&1 == 1 {
				some += s[i : i+1]
			}
		}
		f(some)
	}
}

// makes looks what Make tells of numbers, and whether it leaves them, and the room behind them, as they were.
func makes(t *testing.T, why string, l []int, want string, wantErr api.Errno) {
	t.Helper()
	room := append(slices.Clone(l), 7, 0, 300)
	if got, err := Make(room[:len(l)]); got != want || err != wantErr {
		t.Errorf("%s: Make(%v) = %x, %d, not %x, %d", why, l, got, err, want, wantErr)
	}
	if !slices.Equal(room, append(slices.Clone(l), 7, 0, 300)) {
		t.Errorf("%s: of %v, and the room behind, Make leaves %v", why, l, room)
	}
}

// share looks whether two offers have just these versions, by Both and by Best, whichever comes first.
func share(t *testing.T, why, a, b, want string) {
	t.Helper()
	best, wantErr := 0, api.ErrVersion
	if want != "" {
		best, wantErr = int(want[0]), api.OK
	}
	tells(t, why, a, b, want, best, wantErr)
	tells(t, why+", the other way round", b, a, want, best, wantErr)
}

// refused looks whether two texts, of which one is no offer, have nothing, whichever comes first.
func refused(t *testing.T, why, a, b string) {
	t.Helper()
	tells(t, why, a, b, "", 0, api.ErrForm)
	tells(t, why+", the other way round", b, a, "", 0, api.ErrForm)
}

// tells looks what Both and Best tell of two texts.
func tells(t *testing.T, why, a, b, want string, best int, wantErr api.Errno) {
	t.Helper()
	if got := Both(a, b); got != want {
		t.Errorf("%s: Both(%x, %x) = %x, not %x", why, a, b, got, want)
	}
	if got, err := Best(a, b); got != best || err != wantErr {
		t.Errorf("%s: Best(%x, %x) = %d, %d, not %d, %d", why, a, b, got, err, best, wantErr)
	}
}

func TestExamplesOfTheChapter(t *testing.T) {
	makes(t, "one that comes more than once", []int{3, 1, 3}, "\x03\x01", api.OK)
	share(t, "two offers", "\x05\x03\x01", "\x04\x03\x02\x01", "\x03\x01")
	if version, err := Best("\x05\x03\x01", "\x04\x03\x02\x01"); version != 3 || err != api.OK {
		t.Errorf("Best = %d, %d", version, err)
	}
}

// P9.1

func TestMakeTellsOffer(t *testing.T) {
	for _, x := range []struct {
		why  string
		l    []int
		want string
	}{
		{"the least version", []int{1}, "\x01"},
		{"the greatest version", []int{255}, "\xff"},
		{"two that rise", []int{1, 2}, "\x02\x01"},
		{"two that fall", []int{2, 1}, "\x02\x01"},
		{"both edges", []int{1, 255}, "\xff\x01"},
		{"what signs would turn round", []int{127, 128}, "\x80\x7f"},
		{"one twice", []int{9, 9}, "\x09"},
		{"one twice side by side", []int{4, 9, 9, 1}, "\x09\x04\x01"},
		{"one twice apart", []int{9, 4, 9}, "\x09\x04"},
		{"each twice", []int{2, 1, 2, 1}, "\x02\x01"},
		{"eight unlike ones", []int{1, 2, 3, 4, 5, 6, 7, 8}, "\x08\x07\x06\x05\x04\x03\x02\x01"},
		{"eight unlike ones, mixed", []int{128, 1, 255, 3, 127, 2, 254, 16}, eight},
		{"nine numbers, of which eight are unlike", []int{1, 2, 3, 4, 5, 6, 7, 8, 1}, "\x08\x07\x06\x05\x04\x03\x02\x01"},
		{"ten numbers, of which eight are unlike", []int{8, 8, 7, 6, 5, 4, 4, 3, 2, 1}, "\x08\x07\x06\x05\x04\x03\x02\x01"},
		{"nine numbers, of which seven are unlike", []int{7, 6, 5, 4, 3, 2, 1, 2, 3}, "\x07\x06\x05\x04\x03\x02\x01"},
		{"nine numbers, of which two are unlike", []int{1, 2, 1, 2, 1, 2, 1, 2, 1}, "\x02\x01"},
		{"one a great many times", slices.Repeat([]int{200}, 1000), "\xc8"},
		{"eight a great many times", slices.Repeat(numbers(eight), 100), eight},
	} {
		makes(t, x.why, x.l, x.want, api.OK)
	}
}

func TestMakeOfEachVersionAlone(t *testing.T) {
	for version := 1; version <= 255; version++ {
		makes(t, "one alone", []int{version}, string([]byte{byte(version)}), api.OK)
	}
}

// TestMakeInEveryOrder: each offer comes of its versions in whatever order.
func TestMakeInEveryOrder(t *testing.T) {
	for _, s := range offers() {
		samples.Orders(numbers(s), func(l []int) { makes(t, "an order", l, s, api.OK) })
	}
}

// TestMakeInEveryOrderOfSomeTwice: nor does it matter which ones come more than once, and where.
func TestMakeInEveryOrderOfSomeTwice(t *testing.T) {
	for _, l := range [][]int{{3, 3, 2}, {3, 2, 2, 1}, {255, 255, 1, 1, 128}, {4, 4, 4, 3, 2, 2}} {
		want, _ := offerOf(l)
		samples.Orders(l, func(l []int) { makes(t, "an order", l, want, api.OK) })
	}
}

func TestMakeRefusesNone(t *testing.T) {
	makes(t, "nil", nil, "", api.ErrArg)
	makes(t, "empty", []int{}, "", api.ErrArg)
	if s, err := Make(nil); s != "" || err != api.ErrArg {
		t.Errorf("Make(nil) = %x, %d", s, err)
	}
}

func TestMakeRefusesMoreThanEight(t *testing.T) {
	nine := []int{1, 2, 3, 4, 5, 6, 7, 8, 9}
	makes(t, "nine unlike ones", nine, "", api.ErrArg)
	makes(t, "nine unlike ones, that fall", []int{9, 8, 7, 6, 5, 4, 3, 2, 1}, "", api.ErrArg)
	makes(t, "nine unlike ones, the edges among them", append(numbers(eight), 100), "", api.ErrArg)
	makes(t, "nine unlike ones, one of them twice", append(slices.Clone(nine), 1), "", api.ErrArg)
	makes(t, "nine unlike ones, many times", slices.Repeat(nine, 50), "", api.ErrArg)
	makes(t, "eight unlike ones many times, and then a ninth one", append(slices.Repeat(numbers(eight), 50), 100), "", api.ErrArg)
	makes(t, "sixteen unlike ones", append([]int{16, 15, 14, 13, 12, 11, 10}, nine...), "", api.ErrArg)
	makes(t, "all versions there are", numbers(allFalling()), "", api.ErrArg)
}

// TestMakeRefusesWhatIsNoVersion: alone, and in each place beside versions, also where one byte of it would be a version.
func TestMakeRefusesWhatIsNoVersion(t *testing.T) {
	for _, none := range []int{0, -1, -2, -3, -128, -255, -256, -253, 256, 257, 259, 300, 511, 512, 1000, 65535, 65536, 65539, 1<<31 - 1, 1 << 31, 1<<32 + 3, 1 << 62, math.MaxInt - 252, math.MaxInt, math.MinInt + 3, math.MinInt} {
		makes(t, "one alone", []int{none}, "", api.ErrArg)
		makes(t, "one twice", []int{none, none}, "", api.ErrArg)
		for _, s := range offers() {
			for place := range len(s) + 1 {
				makes(t, "one beside versions", slices.Insert(numbers(s), place, none), "", api.ErrArg)
			}
			for place := range len(s) {
				l := numbers(s)
				l[place] = none
				makes(t, "one in a version's place", l, "", api.ErrArg)
			}
		}
		makes(t, "one beside a version twice", []int{3, 3, none}, "", api.ErrArg)
		makes(t, "one ahead of nine versions", append([]int{none}, 9, 8, 7, 6, 5, 4, 3, 2, 1), "", api.ErrArg)
		makes(t, "one behind nine versions", []int{9, 8, 7, 6, 5, 4, 3, 2, 1, none}, "", api.ErrArg)
	}
}

// TestMakeOfManyNumbers holds what Make answers against the promise's own words.
func TestMakeOfManyNumbers(t *testing.T) {
	r := rand.New(rand.NewSource(9))
	for range 20000 {
		l := make([]int, r.Intn(14))
		span := 1 + r.Intn(258)
		for i := range l {
			// Few of them are no version, lest most lists be refused for that alone.
			if l[i] = 1 + r.Intn(span); r.Intn(60) == 0 {
				l[i] = r.Intn(3) - 2
			}
		}
		want, err := offerOf(l)
		makes(t, "some numbers", l, want, err)
	}
}

func TestRightOfOffers(t *testing.T) {
	for _, s := range offers() {
		if !Right(s) {
			t.Errorf("Right(%x) is no", s)
		}
	}
	for size := 1; size <= 255; size++ {
		s := allFalling()[:size]
		if got := Right(s); got != (size <= 8) {
			t.Errorf("Right of %d versions is %t", size, got)
		}
	}
}

func TestRightOfNoOffers(t *testing.T) {
	for s, why := range noOffers() {
		if Right(s) {
			t.Errorf("%s: Right(%x) is yes", why, s)
		}
	}
}

// TestRightOfAllShortTexts holds what Right answers against the chapter's own words, of every text of at most two bytes.
func TestRightOfAllShortTexts(t *testing.T) {
	samples.Texts(samples.EachByte(), 2, func(s string) {
		if Right(s) != isOffer(s) {
			t.Errorf("Right(%x) is %t", s, !isOffer(s))
		}
	})
}

// TestRightOfTextsOfFewBytes does so of every text of at most five bytes, of those of a few.
func TestRightOfTextsOfFewBytes(t *testing.T) {
	samples.Texts("\x00\x01\x02\x7f\x80\xff", 5, func(s string) {
		if Right(s) != isOffer(s) {
			t.Errorf("Right(%x) is %t", s, !isOffer(s))
		}
	})
}

func TestRightOfWhatMakeAnswers(t *testing.T) {
	subsets(allFalling()[100:110], func(some string) {
		if s, err := Make(numbers(some)); Right(s) != (err == api.OK) {
			t.Errorf("Make(%x) = %x, %d, of which Right is %t", some, s, err, Right(s))
		}
	})
	for _, s := range offers() {
		again, err := Make(numbers(s))
		if again != s || err != api.OK {
			t.Errorf("of the offer %x's versions Make tells %x, %d", s, again, err)
		}
	}
}

// P9.2

func TestWhatTwoOffersHave(t *testing.T) {
	for _, x := range []struct{ why, a, b, want string }{
		{"equal ones, of one version", "\x05", "\x05", "\x05"},
		{"equal ones, of the least version", "\x01", "\x01", "\x01"},
		{"equal ones, of the greatest version", "\xff", "\xff", "\xff"},
		{"equal ones, of three", "\x05\x03\x01", "\x05\x03\x01", "\x05\x03\x01"},
		{"equal ones, of eight", eight, eight, eight},
		{"all of the one, the first ones of the other", "\xff\xfe", eight, "\xff\xfe"},
		{"all of the one, the last ones of the other", "\x02\x01", eight, "\x02\x01"},
		{"all of the one, within the other", "\x80\x7f\x10", eight, "\x80\x7f\x10"},
		{"all of the one, apart in the other", "\xff\x7f\x01", eight, "\xff\x7f\x01"},
		{"some, with others between", "\x09\x07\x05\x03\x01", "\x08\x07\x04\x03\x02", "\x07\x03"},
		{"some, of one length", "\x03\x02", "\x02\x01", "\x02"},
		{"some, of unlike lengths", "\xff\x80\x01", "\x80\x7f\x40\x20\x01", "\x80\x01"},
		{"all but one", eight, "\xff\xfe\x80\x7f\x10\x04\x02\x01", "\xff\xfe\x80\x7f\x10\x02\x01"},
		{"one, the first one of both", "\x09\x04\x02", "\x09\x05\x03", "\x09"},
		{"one, the last one of both", "\x09\x04\x02", "\x08\x05\x02", "\x02"},
		{"one, in the middle of both", "\x09\x04\x02", "\x08\x04\x03", "\x04"},
		{"one, the first and the last one", "\x04\x02\x01", "\x09\x08\x04", "\x04"},
		{"one, the first and a middle one", "\x04\x02\x01", "\x09\x04\x03", "\x04"},
		{"one, a middle and the last one", "\x09\x04\x02", "\x08\x05\x04", "\x04"},
		{"one, alone and the first one", "\xff", eight, "\xff"},
		{"one, alone and a middle one", "\x10", eight, "\x10"},
		{"one, alone and the last one", "\x01", eight, "\x01"},
		{"the best first of both, of two", "\x09\x04\x02", "\x09\x05\x02", "\x09\x02"},
		{"the best in the middle of both, of two", "\x09\x04\x02", "\x08\x04\x02", "\x04\x02"},
		{"the best first and in the middle, of two", "\x04\x02\x01", "\x09\x04\x01", "\x04\x01"},
		{"none, of one version each", "\x05", "\x04", ""},
		{"none, of both edges", "\x01", "\xff", ""},
		{"none, with each other's between", "\x09\x07\x05\x03", "\x08\x06\x04\x02", ""},
		{"none, of eight each", "\x10\x0e\x0c\x0a\x08\x06\x04\x02", "\x0f\x0d\x0b\x09\x07\x05\x03\x01", ""},
		{"none, of unlike lengths", "\x11", eight, ""},
		{"none, of those that differ by a sign", "\x83\x82\x81", "\x03\x02\x01", ""},
	} {
		share(t, x.why, x.a, x.b, x.want)
	}
}

// TestNoOffersHaveNothing: beside an offer, beside another one that is none, and beside themselves; whether they have bytes in common or not.
func TestNoOffersHaveNothing(t *testing.T) {
	none := noOffers()
	for s, why := range none {
		for _, right := range append(offers(), "\x11", "\x05\x03") {
			refused(t, why+", and an offer", s, right)
		}
		for other, otherWhy := range none {
			refused(t, why+", and "+otherWhy, s, other)
		}
	}
}

// TestErrFormGoesFirst: no version is in both here, either.
func TestErrFormGoesFirst(t *testing.T) {
	refused(t, "one that rises, and an offer of others", "\x01\x02", "\x04\x03")
	refused(t, "one twice, and an offer of others", "\x02\x02", "\x04\x03")
	refused(t, "nine, and an offer of others", allFalling()[:9], "\x04\x03")
	refused(t, "no bytes, and an offer", "", "\x04\x03")
	refused(t, "0, and an offer", "\x00", "\x04\x03")
	refused(t, "two that rise, of others", "\x01\x02", "\x03\x04")
	refused(t, "no bytes on both sides", "", "")
}

// TestPairsOfTexts holds what Both and Best answer against the promise's own words.
func TestPairsOfTexts(t *testing.T) {
	pairs(func(a, b string) { holds(t, a, b) })
}

// holds looks whether Both and Best tell of two texts what the promise's own words do.
func holds(t *testing.T, a, b string) {
	t.Helper()
	if isOffer(a) && isOffer(b) {
		share(t, "a pair of offers", a, b, inCommon(a, b))
	} else {
		refused(t, "a pair of texts, of which one is no offer", a, b)
	}
}

// pairs calls f with each two of the offers, and nothing, of some versions, and with a great many texts of all versions, that may be no offers, too.
func pairs(f func(a, b string)) {
	subsets(eight, func(a string) {
		subsets(eight, func(b string) { f(a, b) })
	})
	r := rand.New(rand.NewSource(9))
	for range 100000 {
		f(text(r), text(r))
	}
}

// text is some text, mostly an offer.
func text(r *rand.Rand) string {
	l := make([]int, 1+r.Intn(8))
	span := 1 + r.Intn(255)
	for i := range l {
		l[i] = 1 + r.Intn(span)
	}
	s, _ := offerOf(l)
	if r.Intn(6) > 0 {
		return s
	}
	odd := []byte(s + "\x01")
	odd[r.Intn(len(odd))] = byte(r.Intn(span))
	return string(odd)
}

func TestWhatIsAnsweredIsNewMemory(t *testing.T) {
	a, b := strings.Clone(eight), strings.Clone(eight)
	for _, x := range []string{Both(a, b), Both(a, a)} {
		if unsafe.StringData(x) == unsafe.StringData(a) || unsafe.StringData(x) == unsafe.StringData(b) {
			t.Errorf("%x stands within what was handed in", x)
		}
	}
}

// P9.3

func TestWhichComesFirstMakesNoDifference(t *testing.T) {
	look := func(a, b string) {
		if one, other := Both(a, b), Both(b, a); one != other {
			t.Errorf("Both(%x, %x) = %x, and the other way round %x", a, b, one, other)
		}
		one, oneErr := Best(a, b)
		if other, otherErr := Best(b, a); one != other || oneErr != otherErr {
			t.Errorf("Best(%x, %x) = %d, %d, and the other way round %d, %d", a, b, one, oneErr, other, otherErr)
		}
	}
	pairs(look)
}

// TestWhatBothHaveIsOffer: or it is empty; Best is its first byte, and told where there is one alone.
func TestWhatBothHaveIsOffer(t *testing.T) {
	look := func(a, b string) {
		both := Both(a, b)
		best, err := Best(a, b)
		if both == "" {
			if best != 0 || err == api.OK {
				t.Errorf("%x and %x have nothing, of which Best is %d, %d", a, b, best, err)
			}
			return
		}
		if !Right(both) || best != int(both[0]) || err != api.OK {
			t.Errorf("%x and %x have %x, of which Best is %d, %d, and Right %t", a, b, both, best, err, Right(both))
		}
	}
	pairs(look)
}

// TestWhatBothHaveIsInEach: so either one has all of it in common with it.
func TestWhatBothHaveIsInEach(t *testing.T) {
	look := func(a, b string) {
		if both := Both(a, b); both != "" && (Both(both, a) != both || Both(b, both) != both) {
			t.Errorf("%x and %x have %x, that is not in each", a, b, both)
		}
	}
	pairs(look)
}
