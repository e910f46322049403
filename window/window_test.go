package window

import (
	"math"
	"math/rand"
	"slices"
	"testing"

	"sough/api"
	"sough/samples"
)

// last is the last number that there is, all its digits 1.
const last = math.MaxUint64

// known tells by the chapter's words whether a window has a digit of n, and whether that is 1.
func known(w Window, n uint64) (is, came bool) {
	digits := w.Bits
	for i := uint64(0); i <= 63; i++ {
		if w.Next > i && w.Next-1-i == n {
			return true, digits%2 == 1
		}
		digits /= 2
	}
	return false, false
}

// plainHas is by the promise's words what Has tells.
func plainHas(w Window, n uint64) bool {
	is, came := known(w, n)
	return is && came
}

// plainCan is by the promise's words what Can tells.
func plainCan(w Window, n uint64) bool {
	if n == last {
		return false
	}
	if n >= w.Next {
		return true
	}
	is, came := known(w, n)
	return is && !came
}

// plainTake is by the promise's words what Take tells.
func plainTake(w Window, n uint64) (Window, api.Errno) {
	if n == last {
		return Window{}, api.ErrArg
	}
	if !plainCan(w, n) {
		return Window{}, api.ErrOld
	}
	digits := digitsOf(w)
	if n < w.Next {
		digits[w.Next-1-n] = true
		return windowOf(w.Next, digits), api.OK
	}
	var moved [64]bool
	moved[0] = true
	for i := range digits {
		if far := n - w.Next; far < 63 && uint64(i)+1+far < 64 {
			moved[uint64(i)+1+far] = digits[i]
		}
	}
	return windowOf(n+1, moved), api.OK
}

// digitsOf are a window's digits, the least one first.
func digitsOf(w Window) (digits [64]bool) {
	left := w.Bits
	for i := range digits {
		digits[i] = left%2 == 1
		left /= 2
	}
	return digits
}

// windowOf is one of that Next, and those digits.
func windowOf(next uint64, digits [64]bool) Window {
	w := Window{Next: next}
	worth := uint64(1)
	for _, digit := range digits {
		if digit {
			w.Bits += worth
		}
		worth *= 2
	}
	return w
}

// power is 2^i.
func power(i int) uint64 {
	worth := uint64(1)
	for range i {
		worth *= 2
	}
	return worth
}

// tells looks what Can and Has tell of a number.
func tells(t *testing.T, why string, w Window, n uint64, can, has bool) {
	t.Helper()
	if got := w.Can(n); got != can {
		t.Errorf("%s: %x.Can(%d) = %t", why, w, n, got)
	}
	if got := w.Has(n); got != has {
		t.Errorf("%s: %x.Has(%d) = %t", why, w, n, got)
	}
}

// takes looks whether Take takes a number, and what the window is then; and whether the one that it was called of stays.
func takes(t *testing.T, why string, w Window, n uint64, want Window) Window {
	t.Helper()
	told(t, why, w, n, want, api.OK)
	tells(t, why+", then", want, n, false, true)
	return want
}

// refuses looks whether Take refuses a number, with the zero window.
func refuses(t *testing.T, why string, w Window, n uint64, want api.Errno) {
	t.Helper()
	told(t, why, w, n, Window{}, want)
}

func told(t *testing.T, why string, w Window, n uint64, want Window, wantErr api.Errno) {
	t.Helper()
	was := w
	for range 2 {
		if got, err := w.Take(n); got != want || err != wantErr {
			t.Errorf("%s: %x.Take(%d) = %x, %d, not %x, %d", why, was, n, got, err, want, wantErr)
		}
		if w != was {
			t.Errorf("%s: Take(%d) makes %x, of which it was called, %x", why, n, was, w)
		}
	}
}

// holds looks whether all calls tell of a number what the promises' own words do.
func holds(t *testing.T, why string, w Window, n uint64) {
	t.Helper()
	tells(t, why, w, n, plainCan(w, n), plainHas(w, n))
	want, wantErr := plainTake(w, n)
	told(t, why, w, n, want, wantErr)
}

// nexts are some that Next may be, with all edges.
func nexts() []uint64 {
	return []uint64{0, 1, 2, 3, 62, 63, 64, 65, 66, 127, 128, 129, 200, 1<<32 - 1, 1 << 32, 1<<32 + 1, 1<<63 - 1, 1 << 63, 1<<63 + 1, 1<<63 + 64, last - 130, last - 129, last - 128, last - 66, last - 65, last - 64, last - 63, last - 62, last - 2, last - 1, last}
}

// bits are some that Bits may be, with all edges.
func bits() []uint64 {
	return []uint64{0, 1, 2, 3, 21, 1 << 31, 1 << 32, 1<<32 + 1, 1 << 62, 1<<63 - 1, 1 << 63, 1<<63 + 1, 3 << 62, 0x5555555555555555, 0xaaaaaaaaaaaaaaaa, 0x0123456789abcdef, last - 1, last}
}

// windows are some, with all edges.
func windows() []Window {
	var l []Window
	for _, next := range nexts() {
		for _, some := range bits() {
			l = append(l, Window{Next: next, Bits: some})
		}
	}
	return l
}

// around are numbers about a window's Next, on both sides of it, and the edges of all numbers. Those that go beyond these edges turn up at the other end.
func around(w Window) []uint64 {
	l := append(samples.Numbers(), 3, 62, 63, 64, 65, 66, 127, 128, last-2, last-62, last-63, last-64, last-65)
	for _, far := range []uint64{0, 1, 2, 30, 31, 32, 33, 61, 62, 63, 64, 65, 66, 127, 128, 129, 1 << 32, 1<<32 + 1, 1<<63 - 1, 1 << 63} {
		l = append(l, w.Next+far, w.Next-1-far)
	}
	return l
}

// of is the window of nothing, once these numbers came.
func of(t *testing.T, l ...uint64) Window {
	t.Helper()
	var w Window
	for _, n := range l {
		next, err := w.Take(n)
		if err != api.OK {
			t.Fatalf("Take(%d) of %v = %d", n, l, err)
		}
		w = next
	}
	return w
}

func TestExamplesOfTheChapter(t *testing.T) {
	w := takes(t, "of nothing", Window{}, 5, Window{Next: 6, Bits: 1})
	w = takes(t, "behind 5", w, 3, Window{Next: 6, Bits: 5})
	refuses(t, "again", w, 5, api.ErrOld)
	takes(t, "behind 5 and 3", w, 7, Window{Next: 8, Bits: 21})
}

// P14.1

func TestOfNothing(t *testing.T) {
	for _, n := range []uint64{0, 1, 63, 64, 65, 1 << 32, 1<<63 - 1, 1 << 63, last - 64, last - 63, last - 2, last - 1} {
		tells(t, "of nothing", Window{}, n, true, false)
	}
	tells(t, "of nothing, the last number", Window{}, last, false, false)
}

// TestOfWhatIsNotBelowNext: it can, unless it is the last number, and did not come, whatever the digits are.
func TestOfWhatIsNotBelowNext(t *testing.T) {
	for _, w := range windows() {
		for _, far := range []uint64{0, 1, 2, 31, 32, 62, 63, 64, 65, 128, 1 << 32, 1 << 63} {
			if far < last-w.Next {
				tells(t, "not below Next", w, w.Next+far, true, false)
			}
		}
		if w.Next < last {
			tells(t, "the last number but one", w, last-1, true, false)
		}
		tells(t, "the last number", w, last, false, false)
	}
}

// TestOfWhatIsBelowNext: of each number that has a digit that alone tells.
func TestOfWhatIsBelowNext(t *testing.T) {
	for _, next := range nexts() {
		for i := range 64 {
			if uint64(i) >= next {
				continue
			}
			n := next - 1 - uint64(i)
			for _, some := range bits() {
				tells(t, "its digit is 1", Window{Next: next, Bits: some | power(i)}, n, false, true)
				tells(t, "its digit is 0", Window{Next: next, Bits: some &^ power(i)}, n, true, false)
			}
			tells(t, "its digit alone is 1", Window{Next: next, Bits: power(i)}, n, false, true)
			tells(t, "its digit alone is 0", Window{Next: next, Bits: last - power(i)}, n, true, false)
		}
	}
}

func TestOfWhatIsBelowNextByNumbers(t *testing.T) {
	for _, x := range []struct {
		why      string
		w        Window
		n        uint64
		can, has bool
	}{
		{"0, of Next 1", Window{1, 1}, 0, false, true},
		{"0, of Next 1, not come", Window{1, 0}, 0, true, false},
		{"0, of Next 1, other digits", Window{1, last - 1}, 0, true, false},
		{"0, of Next 2", Window{2, 2}, 0, false, true},
		{"1, of Next 2", Window{2, 2}, 1, true, false},
		{"0, of Next 63", Window{63, 1 << 62}, 0, false, true},
		{"0, of Next 63, not come", Window{63, 1 << 63}, 0, true, false},
		{"0, of Next 64", Window{64, 1 << 63}, 0, false, true},
		{"0, of Next 64, not come", Window{64, 1 << 62}, 0, true, false},
		{"1, of Next 64", Window{64, 1 << 62}, 1, false, true},
		{"0, of Next 65", Window{65, last}, 0, false, false},
		{"0, of Next 65, no digits", Window{65, 0}, 0, false, false},
		{"1, of Next 65", Window{65, 1 << 63}, 1, false, true},
		{"1, of Next 65, not come", Window{65, 1}, 1, true, false},
		{"2^63 - 1, of Next 2^63", Window{1 << 63, 1}, 1<<63 - 1, false, true},
		{"63 below that", Window{1 << 63, 1 << 63}, 1<<63 - 64, false, true},
		{"64 below that", Window{1 << 63, last}, 1<<63 - 65, false, false},
		{"2^64 - 3, of Next 2^64 - 2", Window{last - 1, 1}, last - 2, false, true},
		{"2^64 - 2, of Next 2^64 - 1", Window{last, 1}, last - 1, false, true},
		{"2^64 - 2, of Next 2^64 - 1, not come", Window{last, last - 1}, last - 1, true, false},
		{"63 below that", Window{last, 1 << 63}, last - 64, false, true},
		{"64 below that", Window{last, last}, last - 65, false, false},
		{"64 below that, no digits", Window{last, 0}, last - 65, false, false},
		{"0, of Next 2^64 - 1", Window{last, last}, 0, false, false},
	} {
		tells(t, x.why, x.w, x.n, x.can, x.has)
	}
}

// TestOfWhatHasNoDigit: what is 64 and more below Next - 1 neither can nor came, whatever the digits are.
func TestOfWhatHasNoDigit(t *testing.T) {
	for _, w := range windows() {
		for _, far := range []uint64{64, 65, 66, 95, 96, 127, 128, 129, 192, 1 << 32, 1<<32 + 1, 1 << 63, 1<<63 + 1} {
			if w.Next > far {
				tells(t, "too far below Next", w, w.Next-1-far, false, false)
			}
		}
		if w.Next > 64 {
			tells(t, "0", w, 0, false, false)
		}
	}
}

// TestDigitsOfNoNumber: below a small Next there are fewer numbers than digits, and those that are left tell of none, not even of what a number below 0 turns into.
func TestDigitsOfNoNumber(t *testing.T) {
	for next := range uint64(64) {
		for i := next; i < 64; i++ {
			for _, some := range []uint64{power(int(i)), last} {
				n := next - 1 - i
				tells(t, "a number below 0", Window{Next: next, Bits: some}, n, n != last, false)
			}
		}
	}
}

func TestCanAndHasAgainstWords(t *testing.T) {
	for _, w := range windows() {
		for _, n := range around(w) {
			tells(t, "some number", w, n, plainCan(w, n), plainHas(w, n))
		}
	}
}

// P14.2

// TestTakeOfTheLastNumber: ErrArg, of any window, with nothing beside it.
func TestTakeOfTheLastNumber(t *testing.T) {
	refuses(t, "of nothing", Window{}, last, api.ErrArg)
	for _, w := range windows() {
		refuses(t, "the last number", w, last, api.ErrArg)
	}
}

// TestTakeOfWhatCame: ErrOld, with nothing beside it.
func TestTakeOfWhatCame(t *testing.T) {
	for _, next := range nexts() {
		for i := range 64 {
			if uint64(i) < next {
				for _, some := range bits() {
					refuses(t, "it came", Window{Next: next, Bits: some | power(i)}, next-1-uint64(i), api.ErrOld)
				}
			}
		}
	}
}

// TestTakeOfWhatIsTooOld: ErrOld, with nothing beside it, whatever the digits are.
func TestTakeOfWhatIsTooOld(t *testing.T) {
	for _, w := range windows() {
		for _, far := range []uint64{64, 65, 66, 127, 128, 129, 192, 1 << 32, 1<<32 + 1, 1 << 63} {
			if w.Next > far {
				refuses(t, "too far below Next", w, w.Next-1-far, api.ErrOld)
			}
		}
	}
	refuses(t, "0, of Next 65", Window{Next: 65}, 0, api.ErrOld)
	refuses(t, "0, of Next 65, all digits", Window{Next: 65, Bits: last}, 0, api.ErrOld)
}

// TestTakeBelowNext: its digit is turned, and nothing else.
func TestTakeBelowNext(t *testing.T) {
	for _, next := range nexts() {
		for i := range 64 {
			if uint64(i) < next {
				for _, some := range bits() {
					was := some &^ power(i)
					takes(t, "below Next", Window{Next: next, Bits: was}, next-1-uint64(i), Window{Next: next, Bits: was + power(i)})
				}
			}
		}
	}
}

func TestTakeBelowNextByNumbers(t *testing.T) {
	takes(t, "Next - 1", Window{10, 0}, 9, Window{10, 1})
	takes(t, "Next - 1, other digits", Window{10, last - 1}, 9, Window{10, last})
	takes(t, "1 below that", Window{10, 5}, 8, Window{10, 7})
	takes(t, "62 below that", Window{100, 1}, 37, Window{100, 1<<62 + 1})
	takes(t, "63 below that", Window{100, 1}, 36, Window{100, 1<<63 + 1})
	takes(t, "0, of Next 64", Window{64, 1<<63 - 1}, 0, Window{64, last})
	takes(t, "0, of Next 1, other digits", Window{1, 6}, 0, Window{1, 7})
	takes(t, "2^64 - 2, of Next 2^64 - 1", Window{last, 6}, last-1, Window{last, 7})
	takes(t, "63 below that", Window{last, 6}, last-64, Window{last, 1<<63 + 6})
}

// TestTakeAboveNext: each digit goes on to tell of its number, as long as there is room.
func TestTakeAboveNext(t *testing.T) {
	const some = uint64(0x8123456789abcdef)
	for _, x := range []struct {
		why       string
		far       uint64
		was, then uint64
	}{
		{"Next, no digits", 0, 0, 1},
		{"Next, the least digit", 0, 1, 3},
		{"Next, the greatest digit goes", 0, 1 << 63, 1},
		{"Next, the greatest one that stays", 0, 1 << 62, 1<<63 + 1},
		{"Next, all digits", 0, last, last},
		{"Next, some digits", 0, some, 0x02468acf13579bdf},
		{"1 above, no digits", 1, 0, 1},
		{"1 above, the least digit", 1, 1, 5},
		{"1 above, the greatest one that stays", 1, 1 << 61, 1<<63 + 1},
		{"1 above, the least one that goes", 1, 1 << 62, 1},
		{"1 above, all digits", 1, last, last - 2},
		{"1 above, some digits", 1, some, 0x048d159e26af37bd},
		{"2 above, all digits", 2, last, last - 6},
		{"3 above, some digits", 3, some, 0x123456789abcdef1},
		{"31 above, all digits", 31, last, 0xffffffff00000001},
		{"31 above, some digits", 31, some, 0x89abcdef00000001},
		{"61 above, all digits", 61, last, 3<<62 + 1},
		{"62 above, no digits", 62, 0, 1},
		{"62 above, the least digit", 62, 1, 1<<63 + 1},
		{"62 above, the digit beside it", 62, 2, 1},
		{"62 above, all digits", 62, last, 1<<63 + 1},
		{"62 above, some digits", 62, some, 1<<63 + 1},
		{"63 above, no digits", 63, 0, 1},
		{"63 above, the least digit", 63, 1, 1},
		{"63 above, all digits", 63, last, 1},
		{"64 above, the least digit", 64, 1, 1},
		{"64 above, all digits", 64, last, 1},
		{"65 above, all digits", 65, last, 1},
		{"126 above, all digits", 126, last, 1},
		{"127 above, all digits", 127, last, 1},
		{"128 above, all digits", 128, last, 1},
		{"2^32 above, all digits", 1 << 32, last, 1},
		{"2^63 above, all digits", 1 << 63, last, 1},
	} {
		for _, next := range nexts() {
			if x.far < last-next {
				takes(t, x.why, Window{next, x.was}, next+x.far, Window{next + x.far + 1, x.then})
			}
		}
	}
}

// TestTakeOfTheLastNumberButOne: it is taken once, and nothing is above it.
func TestTakeOfTheLastNumberButOne(t *testing.T) {
	for _, x := range []struct {
		why  string
		w    Window
		then uint64
	}{
		{"of nothing", Window{}, 1},
		{"of nothing, all digits", Window{0, last}, 1},
		{"of Next 1", Window{1, last}, 1},
		{"of Next 2", Window{2, last}, 1},
		{"of Next 63", Window{63, last}, 1},
		{"of Next 2^63", Window{1 << 63, last}, 1},
		{"64 above Next", Window{last - 65, last}, 1},
		{"63 above Next", Window{last - 64, last}, 1},
		{"62 above Next", Window{last - 63, last}, 1<<63 + 1},
		{"2 above Next", Window{last - 3, 1}, 9},
		{"1 above Next", Window{last - 2, 1}, 5},
		{"Next", Window{last - 1, 1}, 3},
	} {
		w := takes(t, x.why, x.w, last-1, Window{last, x.then})
		refuses(t, x.why+", again", w, last-1, api.ErrOld)
		refuses(t, x.why+", the last number", w, last, api.ErrArg)
	}
}

// TestTakeOfTheFirst: of a window of nothing its digit alone is 1.
func TestTakeOfTheFirst(t *testing.T) {
	for _, n := range []uint64{0, 1, 2, 5, 62, 63, 64, 65, 127, 128, 1000, 1<<32 - 1, 1 << 32, 1<<63 - 1, 1 << 63, 1<<63 + 1, last - 64, last - 2, last - 1} {
		w := takes(t, "the first number", Window{}, n, Window{n + 1, 1})
		refuses(t, "again", w, n, api.ErrOld)
		for far := uint64(1); far <= min(n, 63); far++ {
			tells(t, "below the first number", w, n-far, true, false)
		}
		if n >= 64 {
			refuses(t, "64 below the first number", w, n-64, api.ErrOld)
			refuses(t, "0, too far below the first number", w, 0, api.ErrOld)
		}
	}
}

// TestTakeOfTheFirstBesideDigits: digits that tell of no number are moved like others.
func TestTakeOfTheFirstBesideDigits(t *testing.T) {
	takes(t, "0", Window{0, 5}, 0, Window{1, 11})
	takes(t, "3", Window{0, 5}, 3, Window{4, 81})
	takes(t, "62", Window{0, last}, 62, Window{63, 1<<63 + 1})
	takes(t, "63", Window{0, last}, 63, Window{64, 1})
}

// TestTakeLeavesOthersAsTheyWere: behind each take, every other number that has a digit came if it had come ahead of it.
func TestTakeLeavesOthersAsTheyWere(t *testing.T) {
	for _, w := range windows() {
		for _, n := range around(w) {
			after, err := w.Take(n)
			if err != api.OK {
				continue
			}
			for far := range min(after.Next, 64) {
				other := after.Next - 1 - far
				if _, came := known(w, other); other != n && after.Has(other) != came {
					t.Errorf("%x.Take(%d) = %x, that tells something else of %d", w, n, after, other)
				}
			}
		}
	}
}

// TestTakeLeavesItsWindow: what Take was called of can be asked again, and goes on another way.
func TestTakeLeavesItsWindow(t *testing.T) {
	w := Window{Next: 6, Bits: 1}
	p := &w
	for _, n := range []uint64{3, 5, 6, 70, 1 << 40, last - 1, last} {
		p.Take(n)
		if w != (Window{Next: 6, Bits: 1}) {
			t.Errorf("Take(%d) makes %x of what it was called of", n, w)
		}
	}
	one := takes(t, "one way", w, 3, Window{6, 5})
	other := takes(t, "another way", w, 8, Window{9, 9})
	takes(t, "one way, on", one, 8, Window{9, 41})
	takes(t, "another way, on", other, 3, Window{9, 41})
	tells(t, "as it was", w, 3, true, false)
	tells(t, "as it was", w, 8, true, false)
}

func TestTakeAgainstWords(t *testing.T) {
	for _, w := range windows() {
		for _, n := range around(w) {
			holds(t, "some number", w, n)
		}
	}
}

// TestManyWindows: also of numbers and digits of no order.
func TestManyWindows(t *testing.T) {
	r := rand.New(rand.NewSource(14))
	for range 20000 {
		w := Window{Next: r.Uint64() >> r.Intn(64), Bits: r.Uint64() & r.Uint64()}
		if r.Intn(4) == 0 {
			w.Next = last - w.Next
		}
		for _, n := range []uint64{w.Next + r.Uint64()%130, w.Next - 1 - r.Uint64()%64, w.Next - 60 - r.Uint64()%10, r.Uint64(), r.Uint64() >> r.Intn(64)} {
			holds(t, "some window", w, n)
		}
	}
}

// P14.3

// plain is a set of the numbers that came: by the promises' words what a window tells, of which Take alone made the window.
type plain struct {
	came     map[uint64]bool
	greatest uint64
}

// gone tells whether a number came that is 64 or more above n.
func (p *plain) gone(n uint64) bool { return p.greatest >= 64 && n <= p.greatest-64 }

// refusal tells why a number can't be taken; OK, if it can.
func (p *plain) refusal(n uint64) api.Errno {
	switch {
	case n == last:
		return api.ErrArg
	case p.came[n] || p.gone(n):
		return api.ErrOld
	}
	return api.OK
}

func (p *plain) has(n uint64) bool { return p.came[n] && !p.gone(n) }

// pair is a window, and a plain set, to which the same is done.
type pair struct {
	w Window
	p *plain
}

// fresh is a pair to which nothing came.
func fresh() *pair { return &pair{p: &plain{came: map[uint64]bool{}}} }

// take looks whether Take does as the set tells; a number that is taken was not taken ahead.
func (x *pair) take(t *testing.T, why string, n uint64) {
	t.Helper()
	w, err := x.w.Take(n)
	if want := x.p.refusal(n); err != want || err != api.OK && w != (Window{}) {
		t.Errorf("%s: %x.Take(%d) = %x, %d, not %d", why, x.w, n, w, err, want)
	}
	if err != api.OK {
		return
	}
	if x.p.came[n] {
		t.Errorf("%s: %d is taken twice", why, n)
	}
	x.w, x.p.came[n], x.p.greatest = w, true, max(x.p.greatest, n)
}

// same looks what Can and Has tell of all numbers about the greatest one that came, and of the edges.
func (x *pair) same(t *testing.T, why string) {
	t.Helper()
	for far := range uint64(70) {
		x.tell(t, why, x.p.greatest+far)
		x.tell(t, why, x.p.greatest-far)
	}
	for _, n := range samples.Numbers() {
		x.tell(t, why, n)
	}
}

func (x *pair) tell(t *testing.T, why string, n uint64) {
	t.Helper()
	tells(t, why, x.w, n, x.p.refusal(n) == api.OK, x.p.has(n))
}

// row looks what is told behind each of a row of takes.
func row(t *testing.T, why string, l []uint64) *pair {
	t.Helper()
	x := fresh()
	x.same(t, why)
	for _, n := range l {
		x.take(t, why, n)
		x.same(t, why)
	}
	return x
}

// starts are where rows begin.
func starts() []uint64 {
	return []uint64{0, 1, 63, 64, 1<<32 - 100, 1<<63 - 100, 1 << 63, last - 200}
}

// from are count numbers that rise, by so much each, from a start on; none is behind the last one.
func from(start, step uint64, count int) []uint64 {
	var l []uint64
	for n := start; len(l) < count; n += step {
		l = append(l, n)
		if step > last-n {
			break
		}
	}
	return l
}

// backward is a list the other way round.
func backward(l []uint64) []uint64 {
	l = slices.Clone(l)
	slices.Reverse(l)
	return l
}

func TestRowsInOrder(t *testing.T) {
	for _, start := range starts() {
		for _, step := range []uint64{1, 2, 3, 31, 32, 33, 62, 63, 64, 65, 128, 129, 1 << 32} {
			x := row(t, "rising", from(start, step, 210))
			for _, n := range from(start, step, 210) {
				x.take(t, "again", n)
			}
			x.same(t, "all again")
		}
	}
}

func TestRowsInReverse(t *testing.T) {
	for _, start := range starts() {
		for _, step := range []uint64{1, 2, 31, 63, 64, 65} {
			l := backward(from(start, step, 210))
			row(t, "falling", append(l, l...))
		}
	}
}

// TestRowsWithHoles: those that did not come in their turn come later, as long as they can.
func TestRowsWithHoles(t *testing.T) {
	for _, start := range starts() {
		for _, late := range []uint64{1, 2, 31, 62, 63, 64, 65, 66} {
			for _, step := range []uint64{2, 3, 7} {
				row(t, "with holes", holes(start, late, step))
			}
		}
	}
}

// holes are numbers from a start on, of which each one at a place that step divides comes late: behind the one that is so much above it.
func holes(start, late, step uint64) []uint64 {
	var l []uint64
	for i := range uint64(150) {
		if i%step != 0 {
			l = append(l, start+i)
		}
		if i >= late && (i-late)%step == 0 {
			l = append(l, start+i-late)
		}
	}
	return l
}

func TestRowsInAnyOrder(t *testing.T) {
	r := rand.New(rand.NewSource(1414))
	for _, start := range starts() {
		for _, span := range []int{2, 10, 63, 64, 65, 66, 100, 128, 200} {
			for range 3 {
				var l []uint64
				for _, i := range append(r.Perm(span), r.Perm(span)...) {
					l = append(l, start+uint64(i))
				}
				row(t, "in any order", l)
			}
		}
	}
}

// TestRowsThatDrift: in no order, but mostly rising, with jumps now and then, and what comes again.
func TestRowsThatDrift(t *testing.T) {
	r := rand.New(rand.NewSource(41))
	for _, start := range starts() {
		for _, width := range []uint64{3, 20, 64, 80, 150} {
			x, about := fresh(), start
			for i := range 3000 {
				x.take(t, "of a long row", about+r.Uint64()%width)
				if about < last-400 {
					about += r.Uint64() % 3
				}
				if k := r.Intn(300); k < 3 && about < last-400 {
					about += []uint64{63, 64, 200}[k]
				}
				if i%10 == 0 {
					x.same(t, "of a long row")
				}
			}
		}
	}
}

// TestRowsOfGreatJumps: among numbers of all sizes, and their neighbours.
func TestRowsOfGreatJumps(t *testing.T) {
	r := rand.New(rand.NewSource(6))
	for range 300 {
		x := fresh()
		for range 60 {
			n := uint64(1)<<r.Intn(64) + r.Uint64()%70
			if r.Intn(3) > 0 {
				n = x.p.greatest + r.Uint64()%140 - 70
			}
			x.take(t, "of a row of great jumps", n)
			x.same(t, "of a row of great jumps")
		}
	}
}

// TestAllShortRows: each row of a few takes, of numbers at the edges of each other's digits.
func TestAllShortRows(t *testing.T) {
	for _, start := range starts() {
		numbers := []uint64{start, start + 1, start + 62, start + 63, start + 64, start + 65, start + 128}
		samples.Texts("\x00\x01\x02\x03\x04\x05\x06", 4, func(s string) {
			x := fresh()
			for i := range len(s) {
				x.take(t, "a short row", numbers[s[i]])
			}
			for _, n := range numbers {
				x.tell(t, "a short row", n)
			}
		})
	}
}

// TestCanUntilItComes: a number that can come can, whatever comes meanwhile that is at most 63 above it, and can't behind one that is 64 above it.
func TestCanUntilItComes(t *testing.T) {
	for _, n := range starts() {
		var w Window
		for far := uint64(1); far <= 63; far++ {
			tells(t, "it did not come", w, n, true, false)
			w, _ = w.Take(n + far)
		}
		tells(t, "63 above it came", w, n, true, false)
		came := takes(t, "63 above it came", w, n, Window{n + 64, last})
		refuses(t, "it came", came, n, api.ErrOld)
		w, _ = w.Take(n + 64)
		tells(t, "64 above it came", w, n, false, false)
		refuses(t, "64 above it came", w, n, api.ErrOld)
		came, _ = came.Take(n + 64)
		tells(t, "it came, and 64 above it", came, n, false, false)
		refuses(t, "it came, and 64 above it", came, n, api.ErrOld)
		if w != came || w != (Window{n + 65, last}) {
			t.Errorf("with and without %d: %x and %x", n, came, w)
		}
	}
}

// Windows are compared as structs.

// TestOneOfWhateverOrder: windows to which the same came are alike, if all of it could come in either order.
func TestOneOfWhateverOrder(t *testing.T) {
	for _, start := range starts() {
		want := of(t, start+63, start, start+1, start+30, start+31, start+62)
		if want != (Window{start + 64, 3<<62 + 3<<32 + 3}) {
			t.Errorf("from %d on it is %x", start, want)
		}
		samples.Orders([]uint64{start, start + 1, start + 30, start + 31, start + 62, start + 63}, func(l []uint64) {
			if got := of(t, l...); got != want {
				t.Errorf("of %v: %x, not %x", l, got, want)
			}
		})
	}
}

// TestAlikeOfUnlikePasts: what is no more told does not tell them apart.
func TestAlikeOfUnlikePasts(t *testing.T) {
	want := Window{101, 1}
	for _, l := range [][]uint64{{100}, {36, 100}, {5, 100}, {5, 3, 36, 100}, {0, 1, 2, 36, 100}} {
		if got := of(t, l...); got != want {
			t.Errorf("of %v: %x, not %x", l, got, want)
		}
	}
	if got := of(t, 37, 100); got == want || got != (Window{101, 1<<63 + 1}) {
		t.Errorf("of 37 and 100: %x", got)
	}
}

func TestUnlikeWindows(t *testing.T) {
	if (Window{6, 1}) == (Window{6, 5}) || (Window{6, 1}) == (Window{7, 1}) || of(t, 5) == of(t, 5, 3) || of(t, 5) == of(t, 6) || of(t, 5) == (Window{}) {
		t.Error("windows are alike to which something else came")
	}
	seen := map[Window][]uint64{}
	for next := range uint64(20) {
		for which := range 64 {
			var l []uint64
			for i := range uint64(6) {
				if which>>i&1 == 1 && i < next {
					l = append(l, next-1-i)
				}
			}
			if l = append(l, next); seen[of(t, l...)] == nil {
				seen[of(t, l...)] = l
			} else if !slices.Equal(seen[of(t, l...)], l) {
				t.Errorf("of %v and of %v: %x", seen[of(t, l...)], l, of(t, l...))
			}
		}
	}
}

// R7: a copy goes its own way.

func TestCopiesGoTheirOwnWays(t *testing.T) {
	w := of(t, 5, 3)
	early := w
	w, _ = w.Take(7)
	late := w
	w, _ = w.Take(80)
	late, _ = late.Take(6)
	if early != (Window{6, 5}) || late != (Window{8, 23}) || w != (Window{81, 1}) {
		t.Errorf("early %x, late %x, and the original %x", early, late, w)
	}
}
