package vint

import (
	"math"
	"math/big"
	"strings"
	"testing"
	"unsafe"

	"sough/api"
	"sough/samples"
)

// biggest are the bytes of 2^64 - 1.
const biggest = "\x81\xff\xff\xff\xff\xff\xff\xff\xff\x7f"

// numbers are all small numbers, and those at and about each power of 2 (at some of these the bytes grow longer), rising.
func numbers() []uint64 {
	var l []uint64
	for n := range uint64(40000) {
		l = append(l, n)
	}
	for shift := 16; shift < 64; shift++ {
		p := uint64(1) << shift
		l = append(l, p-2, p-1, p, p+1, p+p/3, p+p/2)
	}
	return append(l, math.MaxUint64-1, math.MaxUint64)
}

// bytesOf reckons a number's bytes as the chapter's words tell them, by other means than Put.
func bytesOf(n uint64) string {
	rest, base, digit := new(big.Int).SetUint64(n), big.NewInt(128), new(big.Int)
	s := ""
	for {
		rest.DivMod(rest, base, digit)
		d := byte(digit.Int64())
		if s != "" {
			d += 128
		}
		s = string([]byte{d}) + s
		if rest.Sign() == 0 {
			return s
		}
	}
}

// P1.1

func TestPutTellsDigits(t *testing.T) {
	for _, x := range []struct {
		n    uint64
		want string
	}{
		{0, "\x00"},
		{1, "\x01"},
		{127, "\x7f"},
		{128, "\x81\x00"},
		{129, "\x81\x01"},
		{255, "\x81\x7f"},
		{256, "\x82\x00"},
		{300, "\x82\x2c"},
		{16383, "\xff\x7f"},
		{16384, "\x81\x80\x00"},
		{1<<63 - 1, "\xff\xff\xff\xff\xff\xff\xff\xff\x7f"},
		{1 << 63, "\x81\x80\x80\x80\x80\x80\x80\x80\x80\x00"},
		{math.MaxUint64, biggest},
	} {
		if got := Put(x.n); got != x.want {
			t.Errorf("Put(%d) = %x, not %x", x.n, got, x.want)
		}
	}
	for _, n := range numbers() {
		if got, want := Put(n), bytesOf(n); got != want {
			t.Errorf("Put(%d) = %x, not %x", n, got, want)
		}
	}
}

func TestGetTellsNumberAndPlaceBehind(t *testing.T) {
	for _, x := range []struct {
		s  string
		at int
		n  uint64
		to int
	}{
		{"\x00", 0, 0, 1},
		{"\x7f", 0, 127, 1},
		{"\x81\x00", 0, 128, 2},
		{"\x82\x2c", 0, 300, 2},
		{"\x82\x2c", 1, 44, 2},
		{"\x00\x00", 0, 0, 1},
		{"\x00\x00", 1, 0, 2},
		{"\xff\x80\x00", 0, 127 << 14, 3},
		{"\x80\x80\x05", 2, 5, 3},
		{"ab\x81\x80\x00c", 2, 16384, 5},
		{biggest, 0, math.MaxUint64, 10},
		{biggest + biggest, 10, math.MaxUint64, 20},
		{"\x81\xff\xff\xff\xff\xff\xff\xff\xff\x7e", 0, math.MaxUint64 - 1, 10},
	} {
		if n, to, err := Get(x.s, x.at); n != x.n || to != x.to || err != api.OK {
			t.Errorf("Get(%x, %d) = %d, %d, %d, not %d, %d", x.s, x.at, n, to, err, x.n, x.to)
		}
	}
}

func TestGetRefuses(t *testing.T) {
	zeros := strings.Repeat("\x80", 8)
	for _, x := range []struct {
		why string
		s   string
		at  int
		err api.Errno
	}{
		{"a place below 0", "a", -1, api.ErrArg},
		{"the least place", "a", math.MinInt, api.ErrArg},
		{"a place behind the end", "a", 2, api.ErrArg},
		{"the greatest place", "a", math.MaxInt, api.ErrArg},
		{"a place behind the end of nothing", "", 1, api.ErrArg},
		{"a place below 0 of bytes that are none", "\x80", -1, api.ErrArg},
		{"nothing", "", 0, api.ErrShort},
		{"the place at the end", "a", 1, api.ErrShort},
		{"a digit that goes on, at the end", "\x81", 0, api.ErrShort},
		{"the greatest digit that goes on, at the end", "\xff", 0, api.ErrShort},
		{"two digits that go on, at the end", "\x81\x80", 0, api.ErrShort},
		{"bytes that end behind another number", "\x05\x81", 1, api.ErrShort},
		{"nine digits that go on, at the end", "\x82" + zeros, 0, api.ErrShort},
		{"ten digits that go on, of 2^64 - 1, at the end", "\x81" + strings.Repeat("\xff", 9), 0, api.ErrShort},
		{"a first byte of 128, at the end", "\x80", 0, api.ErrForm},
		{"a first byte of 128", "\x80\x00", 0, api.ErrForm},
		{"a first byte of 128 ahead of a digit", "\x80\x01", 0, api.ErrForm},
		{"a first byte of 128 behind another number", "\x01\x80\x01", 1, api.ErrForm},
		{"2^64", "\x82" + zeros + "\x00", 0, api.ErrForm},
		{"2^64 and 1", "\x82" + zeros + "\x01", 0, api.ErrForm},
		{"the greatest one of ten digits", strings.Repeat("\xff", 9) + "\x7f", 0, api.ErrForm},
		{"2^64 that goes on, at the end", "\x82" + zeros + "\x80", 0, api.ErrForm},
		{"2^64 and 1 that goes on, at the end", "\x82" + zeros + "\x81", 0, api.ErrForm},
		{"the least one of eleven digits", "\x81" + zeros + "\x80\x00", 0, api.ErrForm},
		{"2^64 - 1, and a digit more", "\x81" + strings.Repeat("\xff", 9) + "\x00", 0, api.ErrForm},
		{"a great many digits", strings.Repeat("\xff", 1000), 0, api.ErrForm},
	} {
		if n, to, err := Get(x.s, x.at); n != 0 || to != 0 || err != x.err {
			t.Errorf("%s: Get(%x, %d) = %d, %d, %d, not %d", x.why, x.s, x.at, n, to, err, x.err)
		}
	}
}

// TestGetOfAllShortTexts holds what Get answers against the promise's own words, of every text of at most two bytes at every place.
func TestGetOfAllShortTexts(t *testing.T) {
	samples.Texts(samples.EachByte(), 2, func(s string) {
		for at := -1; at <= len(s)+1; at++ {
			wantN, wantTo, wantErr := wantOfShort(s, at)
			if n, to, err := Get(s, at); n != wantN || to != wantTo || err != wantErr {
				t.Errorf("Get(%x, %d) = %d, %d, %d, not %d, %d, %d", s, at, n, to, err, wantN, wantTo, wantErr)
			}
		}
	})
}

func wantOfShort(s string, at int) (uint64, int, api.Errno) {
	switch {
	case at < 0 || at > len(s):
		return 0, 0, api.ErrArg
	case at == len(s):
		return 0, 0, api.ErrShort
	case s[at] < 128:
		return uint64(s[at]), at + 1, api.OK
	case s[at] == 128:
		return 0, 0, api.ErrForm
	case at+1 == len(s) || s[at+1] >= 128:
		return 0, 0, api.ErrShort
	}
	return uint64(s[at]-128)*128 + uint64(s[at+1]), at + 2, api.OK
}

// P1.2

func TestPutTextTellsLengthAndText(t *testing.T) {
	for _, x := range []struct{ s, want string }{
		{"", "\x00"},
		{"a", "\x01a"},
		{"abc", "\x03abc"},
		{"\x00\xff\x80", "\x03\x00\xff\x80"},
		{"\u00e9", "\x02\xc3\xa9"},
	} {
		if got := PutText(x.s); got != x.want {
			t.Errorf("PutText(%q) = %q, not %q", x.s, got, x.want)
		}
	}
	for _, size := range []int{126, 127, 128, 129, 1000, 16383, 16384, 100000} {
		s := strings.Repeat("x", size)
		if PutText(s) != bytesOf(uint64(size))+s {
			t.Errorf("PutText of %d bytes", size)
		}
	}
}

func TestGetTextTellsTextAndPlaceBehind(t *testing.T) {
	long := strings.Repeat("y", 300)
	for _, x := range []struct {
		s        string
		at, most int
		want     string
		to       int
	}{
		{"\x00", 0, 0, "", 1},
		{"\x00", 0, 5, "", 1},
		{"\x00", 0, -1, "", 1},
		{"\x00", 0, math.MinInt, "", 1},
		{"\x02ab", 0, 2, "ab", 3},
		{"\x02ab", 0, math.MaxInt, "ab", 3},
		{"\x02abc", 0, 2, "ab", 3},
		{"x\x02ab\x01c", 1, 9, "ab", 4},
		{"x\x02ab\x01c", 4, 9, "c", 6},
		{"\x02\x80\xff", 0, 2, "\x80\xff", 3},
		{"\x82\x2c" + long, 0, 300, long, 302},
	} {
		if got, to, err := GetText(x.s, x.at, x.most); got != x.want || to != x.to || err != api.OK {
			t.Errorf("GetText(%q, %d, %d) = %q, %d, %d, not %q, %d", x.s, x.at, x.most, got, to, err, x.want, x.to)
		}
	}
}

func TestGetTextRefuses(t *testing.T) {
	for _, x := range []struct {
		why      string
		s        string
		at, most int
		err      api.Errno
	}{
		{"a place below 0", "\x01a", -1, 9, api.ErrArg},
		{"a place behind the end", "\x01a", 3, 9, api.ErrArg},
		{"nothing", "", 0, 9, api.ErrShort},
		{"the place at the end", "\x01a", 2, 9, api.ErrShort},
		{"a length that is cut off", "\x81", 0, 9, api.ErrShort},
		{"a length that is cut off, of a most below 0", "\x81", 0, -1, api.ErrShort},
		{"a length that begins with 128", "\x80\x01a", 0, 9, api.ErrForm},
		{"a length of 2^64", "\x82\x80\x80\x80\x80\x80\x80\x80\x80\x00", 0, math.MaxInt, api.ErrForm},
		{"a length one above most", "\x03abc", 0, 2, api.ErrBig},
		{"a length above a most of 0", "\x01a", 0, 0, api.ErrBig},
		{"a length above a most below 0", "\x01a", 0, -1, api.ErrBig},
		{"a length above the least most", "\x01a", 0, math.MinInt, api.ErrBig},
		{"a length above most, and cut off", "\x03a", 0, 2, api.ErrBig},
		{"a length above any most", biggest, 0, math.MaxInt, api.ErrBig},
		{"a length of 2^63", "\x81\x80\x80\x80\x80\x80\x80\x80\x80\x00", 0, math.MaxInt, api.ErrBig},
		{"a text without its last byte", "\x03ab", 0, 3, api.ErrShort},
		{"a text without a byte", "\x03", 0, 3, api.ErrShort},
		{"a text without its last byte, behind another one", "abc\x03ab", 3, 9, api.ErrShort},
		{"a length of 2^63 - 1", "\xff\xff\xff\xff\xff\xff\xff\xff\x7fabc", 0, math.MaxInt, api.ErrShort},
	} {
		if got, to, err := GetText(x.s, x.at, x.most); got != "" || to != 0 || err != x.err {
			t.Errorf("%s: GetText(%q, %d, %d) = %q, %d, %d, not %d", x.why, x.s, x.at, x.most, got, to, err, x.err)
		}
	}
}

func TestGetTextOfTextsThatAreCutOff(t *testing.T) {
	for _, size := range []int{1, 2, 127, 128, 300} {
		whole := PutText(strings.Repeat("z", size))
		for i := range len(whole) {
			if got, to, err := GetText(whole[:i], 0, size); got != "" || to != 0 || err != api.ErrShort {
				t.Errorf("GetText of the first %d of %d bytes = %q, %d, %d", i, len(whole), got, to, err)
			}
		}
	}
}

func TestTextsAreNewMemory(t *testing.T) {
	s := strings.Repeat("\x02ab", 2)
	got, _, _ := GetText(s, 3, 2)
	put := PutText(s)
	for _, x := range []string{got, put} {
		if shares(x, s) {
			t.Errorf("%q stands within what was handed in", x)
		}
	}
}

// shares tells whether the first byte of x is one of those of s.
func shares(x, s string) bool {
	for i := range len(s) {
		if unsafe.StringData(x) == unsafe.StringData(s[i:]) {
			return true
		}
	}
	return false
}

// P1.3

func TestWhatIsPutIsGotWhereverItStands(t *testing.T) {
	for _, n := range numbers() {
		for _, ahead := range []string{"", "a", "\x80", "\xff\xff", biggest} {
			for _, behind := range []string{"", "\x00", "\xff"} {
				s := ahead + Put(n) + behind
				if got, to, err := Get(s, len(ahead)); got != n || to != len(s)-len(behind) || err != api.OK {
					t.Errorf("of %d in %x: %d, %d, %d", n, s, got, to, err)
				}
			}
		}
	}
}

func TestWhatTextIsPutIsGotWhereverItStands(t *testing.T) {
	for _, size := range []int{0, 1, 5, 127, 128, 129, 1000, 16384} {
		text := strings.Repeat("\xffq\x00", size)[:size]
		for _, ahead := range []string{"", "\x80", biggest} {
			for _, behind := range []string{"", "\x00more"} {
				s := ahead + PutText(text) + behind
				if got, to, err := GetText(s, len(ahead), size); got != text || to != len(s)-len(behind) || err != api.OK {
					t.Errorf("of %d bytes behind %x: %d bytes, %d, %d", size, ahead, len(got), to, err)
				}
			}
		}
	}
}

// TestNumbersHaveOneForm: what Get takes are the bytes that Put tells of it, and no others.
func TestNumbersHaveOneForm(t *testing.T) {
	samples.Texts("\x00\x01\x7f\x80\x81\xff", 5, func(s string) {
		if n, to, err := Get(s, 0); err == api.OK && Put(n) != s[:to] {
			t.Errorf("Get(%x, 0) = %d, whose bytes are %x", s, n, Put(n))
		}
	})
}

func TestGreaterNumbersHaveGreaterBytes(t *testing.T) {
	l := numbers()
	for i := 1; i < len(l); i++ {
		less, more := Put(l[i-1]), Put(l[i])
		if len(less) > len(more) || len(less) == len(more) && less >= more {
			t.Errorf("%d has %x, %d has %x", l[i-1], less, l[i], more)
		}
	}
}
