package skip

import (
	"math"
	"math/rand"
	"slices"
	"testing"

	"sough/samples"
	"sough/window"
)

// last is the last number that there is, all its digits 1.
const last = math.MaxUint64

// alien is an entry that no test puts: it stands in the spare room of lists, and spoils those that were answered.
func alien() Entry { return Entry{-77777, -88888, window.Window{Next: 77777, Bits: 88888}} }

// old is an entry of an epoch, with a key and a window that no other epoch's one has.
func old(epoch int) Entry {
	return Entry{epoch, epoch ^ 0x5a5a, window.Window{Next: uint64(epoch) + 9, Bits: ^uint64(epoch)}}
}

// young is another one of that epoch.
func young(epoch int) Entry {
	return Entry{epoch, epoch ^ 0x3c3c3c, window.Window{Next: uint64(epoch) + 1000, Bits: uint64(epoch) ^ 0xff}}
}

// olds are old entries of epochs, in their order.
func olds(epochs ...int) []Entry {
	var l []Entry
	for _, epoch := range epochs {
		l = append(l, old(epoch))
	}
	return l
}

// with are entries with another one at a place.
func with(l []Entry, place int, e Entry) []Entry {
	return slices.Concat(l[:place], []Entry{e}, l[place:])
}

// lacking are entries without the one at a place.
func lacking(l []Entry, place int) []Entry {
	return slices.Concat(l[:place], l[place+1:])
}

// held is a Cache, and all of its list's memory, with what that has to have.
type held struct {
	c           Cache
	memory, was []Entry
}

// inRoom is a Cache of entries, behind which there is spare room for so many, that has aliens in it.
func inRoom(l []Entry, room int) held {
	memory := slices.Clip(slices.Concat(l, slices.Repeat([]Entry{alien()}, room)))
	return held{Cache{memory[:len(l)]}, memory, slices.Clone(memory)}
}

// holding are Caches of the same entries, without and with spare room. Of no entries there is the zero one, too.
func holding(l []Entry) []held {
	some := []held{inRoom(l, 0), inRoom(l, 1), inRoom(l, 8)}
	if len(l) == 0 {
		some = append(some, held{}, held{c: Cache{L: []Entry{}}})
	}
	return some
}

// stays looks whether a Cache's list, and the room behind it, are as they were.
func (x held) stays(t *testing.T, why string) {
	t.Helper()
	if !slices.Equal(x.memory, x.was) {
		t.Errorf("%s: of %+v is made %+v", why, x.was, x.memory)
	}
}

// spoil writes into a list, and into the room behind it.
func spoil[T any](l []T, by T) {
	l = l[:cap(l)]
	for i := range l {
		l[i] = by
	}
}

// lists looks whether calls that answer a list answer just this one, each time; in memory of its own, with nothing kept in the room behind.
func lists[T comparable](t *testing.T, why string, x held, want []T, by T, call func() []T) {
	t.Helper()
	var none T
	one := call()
	other := call()
	if !slices.Equal(one, want) || !slices.Equal(other, want) {
		t.Errorf("%s: of %+v told is %+v, then %+v, not %+v", why, x.c.L, one, other, want)
	}
	for _, item := range one[len(one):cap(one)] {
		if item != none {
			t.Errorf("%s: behind what is told of %+v stands %+v", why, x.c.L, item)
		}
	}
	x.stays(t, why)
	spoil(one, by)
	x.stays(t, why+", what was told being changed")
	if !slices.Equal(other, want) {
		t.Errorf("%s: what is told twice of %+v shares memory", why, x.c.L)
	}
	if again := call(); !slices.Equal(again, want) {
		t.Errorf("%s: of %+v told is %+v in the end, not %+v", why, x.c.L, again, want)
	}
}

// puts looks what Put tells of some entries and one more: the entries then, and which one goes.
func puts(t *testing.T, why string, l []Entry, e Entry, want []Entry, goes Entry, is bool) {
	t.Helper()
	for _, x := range holding(l) {
		lists(t, why, x, want, alien(), func() []Entry {
			got, went, went1 := x.c.Put(e)
			if went != goes || went1 != is {
				t.Errorf("%s: behind Put of %+v into %+v there goes %+v, %t, not %+v, %t", why, e, l, went, went1, goes, is)
			}
			return got.L
		})
	}
}

// fits looks whether an entry is put, and none goes.
func fits(t *testing.T, why string, l []Entry, e Entry, want []Entry) {
	t.Helper()
	puts(t, why, l, e, want, Entry{}, false)
}

// drops looks what Drop tells.
func drops(t *testing.T, why string, l []Entry, epoch int, want []Entry) {
	t.Helper()
	for _, x := range holding(l) {
		lists(t, why, x, want, alien(), func() []Entry { return x.c.Drop(epoch).L })
	}
}

// gets looks what Get tells.
func gets(t *testing.T, why string, l []Entry, epoch int, want Entry, is bool) {
	t.Helper()
	for _, x := range holding(l) {
		if got, ok := x.c.Get(epoch); got != want || ok != is {
			t.Errorf("%s: Get(%d) of %+v = %+v, %t, not %+v, %t", why, epoch, l, got, ok, want, is)
		}
		x.stays(t, why)
	}
}

// lacks looks whether Get finds none.
func lacks(t *testing.T, why string, l []Entry, epoch int) {
	t.Helper()
	gets(t, why, l, epoch, Entry{}, false)
}

// keys looks what Keys tells.
func keys(t *testing.T, why string, l []Entry, want ...int) {
	t.Helper()
	for _, x := range holding(l) {
		lists(t, why, x, want, -88888, x.c.Keys)
	}
}

// tens are the epochs 10, 20, and so on, so many.
func tens(count int) []int {
	var l []int
	for i := range count {
		l = append(l, 10*(i+1))
	}
	return l
}

// edges are epochs at all edges, and numbers that are none, rising.
func edges() []int {
	return []int{math.MinInt, math.MinInt + 1, -1 << 32, -1, 0, 1, 1 << 32, math.MaxInt - 1, math.MaxInt}
}

func TestExamplesOfTheChapter(t *testing.T) {
	var c Cache
	for _, epoch := range []int{5, 1, 3, 2} {
		next, went, is := c.Put(old(epoch))
		if went != (Entry{}) || is {
			t.Errorf("behind Put of the epoch %d there goes %+v, %t", epoch, went, is)
		}
		c = next
	}
	if !slices.Equal(c.L, olds(1, 2, 3, 5)) {
		t.Errorf("behind Put of the epochs 5, 1, 3, 2 there are %+v", c.L)
	}
	next, went, is := c.Put(old(4))
	if !slices.Equal(next.L, olds(2, 3, 4, 5)) || went != old(1) || !is {
		t.Errorf("behind Put of the epoch 4 there are %+v, and %+v goes, %t", next.L, went, is)
	}
}

// P16.1, Put

// TestPutIntoNone: it is there alone, whatever it is.
func TestPutIntoNone(t *testing.T) {
	fits(t, "the zero entry", nil, Entry{}, []Entry{{}})
	for _, epoch := range append(edges(), 2, 5, 999, 1000, 1001) {
		for _, e := range []Entry{old(epoch), young(epoch), {Epoch: epoch}} {
			fits(t, "into none", nil, e, []Entry{e})
		}
	}
}

// TestPutAtEachPlace: ahead of all, between any two, and behind all, where there is room.
func TestPutAtEachPlace(t *testing.T) {
	for count := range 4 {
		l := olds(tens(count)...)
		for place := range count + 1 {
			for _, epoch := range []int{10*place + 1, 10*place + 5, 10*place + 9} {
				e := young(epoch)
				fits(t, "where there is room", l, e, with(l, place, e))
			}
		}
	}
}

// TestPutOfAnEpochThatIsThere: its Key and its Window are the new ones, and none goes, also where there are four.
func TestPutOfAnEpochThatIsThere(t *testing.T) {
	for count := 1; count <= 4; count++ {
		l := olds(tens(count)...)
		for place, was := range l {
			other := young(was.Epoch)
			for _, e := range []Entry{other, {was.Epoch, other.Key, was.W}, {was.Epoch, was.Key, other.W}, {Epoch: was.Epoch}, was} {
				fits(t, "of an epoch that is there", l, e, with(lacking(l, place), place, e))
			}
		}
	}
}

// TestPutOfTheFifth: the least one goes, whether it was there, or is the one that is put; it is told whole.
func TestPutOfTheFifth(t *testing.T) {
	l := olds(10, 20, 30, 40)
	for _, epoch := range []int{11, 15, 19, 21, 25, 29, 31, 35, 39, 41, 45, 49} {
		e := young(epoch)
		puts(t, "the fifth one", l, e, with(l, epoch/10, e)[1:], old(10), true)
	}
	for _, epoch := range []int{9, 5, 1, 0, -1, -10, math.MinInt} {
		for _, e := range []Entry{old(epoch), young(epoch), {Epoch: epoch}} {
			puts(t, "the fifth one, that is the least", l, e, l, e, true)
		}
	}
}

func TestPutOfTheFifthByNumbers(t *testing.T) {
	w := func(next, bits uint64) window.Window { return window.Window{Next: next, Bits: bits} }
	l := []Entry{{3, 70, w(5, 21)}, {4, 60, w(0, 0)}, {6, 50, w(last, last)}, {8, 40, w(1, 1)}}
	puts(t, "behind all", l, Entry{9, 30, w(2, 3)}, []Entry{{4, 60, w(0, 0)}, {6, 50, w(last, last)}, {8, 40, w(1, 1)}, {9, 30, w(2, 3)}}, Entry{3, 70, w(5, 21)}, true)
	puts(t, "between", l, Entry{5, 30, w(2, 3)}, []Entry{{4, 60, w(0, 0)}, {5, 30, w(2, 3)}, {6, 50, w(last, last)}, {8, 40, w(1, 1)}}, Entry{3, 70, w(5, 21)}, true)
	puts(t, "ahead of all", l, Entry{2, 30, w(2, 3)}, l, Entry{2, 30, w(2, 3)}, true)
	fits(t, "of an epoch that is there", l, Entry{4, 30, w(2, 3)}, []Entry{{3, 70, w(5, 21)}, {4, 30, w(2, 3)}, {6, 50, w(last, last)}, {8, 40, w(1, 1)}})
}

// TestPutWhereTheZeroEntryGoes: it goes like any other one, and yes is told beside it.
func TestPutWhereTheZeroEntryGoes(t *testing.T) {
	l := olds(1, 2, 3, 4)
	puts(t, "the zero entry is put", l, Entry{}, l, Entry{}, true)
	zeroFirst := append([]Entry{{}}, olds(1, 2, 3)...)
	puts(t, "the zero entry was there", zeroFirst, old(4), l, Entry{}, true)
	fits(t, "the zero entry's epoch again", zeroFirst, young(0), with(olds(1, 2, 3), 0, young(0)))
	fits(t, "the zero entry's epoch again", with(olds(1, 2, 3), 0, old(0)), Entry{}, zeroFirst)
}

// TestKeysAndWindowsMoveNothing: places go by epochs alone; what else an entry has is kept as it is.
func TestKeysAndWindowsMoveNothing(t *testing.T) {
	some := []int{math.MinInt, -1, 0, 1, 7, 1 << 32, math.MaxInt}
	numbers := samples.Numbers()
	r := rand.New(rand.NewSource(16))
	for range 2000 {
		odd := func(epoch int) Entry {
			return Entry{epoch, some[r.Intn(len(some))], window.Window{Next: numbers[r.Intn(len(numbers))], Bits: numbers[r.Intn(len(numbers))]}}
		}
		l := []Entry{odd(10), odd(20), odd(30), odd(40)}
		e := odd(25)
		puts(t, "the fifth one", l, e, []Entry{l[1], e, l[2], l[3]}, l[0], true)
		fits(t, "the third one", []Entry{l[0], l[3]}, e, []Entry{l[0], e, l[3]})
		fits(t, "of an epoch that is there", []Entry{l[1], odd(25), l[2]}, e, []Entry{l[1], e, l[2]})
		drops(t, "one of four", l, 30, []Entry{l[0], l[1], l[3]})
		gets(t, "one of four", l, 30, l[2], true)
		keys(t, "four", l, l[0].Key, l[1].Key, l[2].Key, l[3].Key)
	}
}

// P16.1, Drop

func TestDropOfNone(t *testing.T) {
	for _, epoch := range append(edges(), 2, 5, 1000) {
		drops(t, "of none", nil, epoch, nil)
	}
}

func TestDropOfEachThatIsThere(t *testing.T) {
	for count := 1; count <= 4; count++ {
		l := olds(tens(count)...)
		for place, e := range l {
			drops(t, "one that is there", l, e.Epoch, lacking(l, place))
		}
	}
	drops(t, "the zero entry", []Entry{{}}, 0, nil)
	drops(t, "the zero entry", append([]Entry{{}}, olds(1, 2, 3)...), 0, olds(1, 2, 3))
	for _, epoch := range edges() {
		drops(t, "the last one that is there", olds(epoch), epoch, nil)
	}
}

// TestDropOfEpochsThatAreNot: ahead of all, between any two, and behind all; nor by what is a key there.
func TestDropOfEpochsThatAreNot(t *testing.T) {
	for count := range 5 {
		l := olds(tens(count)...)
		for place := range count + 1 {
			for _, epoch := range []int{10*place + 1, 10*place + 5, 10*place + 9} {
				drops(t, "one that is not there", l, epoch, l)
			}
		}
		for _, epoch := range []int{-10, -1, 0, math.MinInt, math.MaxInt, 10 + 1<<32, 10 + math.MinInt} {
			drops(t, "one that is not there", l, epoch, l)
		}
		for _, e := range l {
			drops(t, "a key", l, e.Key, l)
		}
	}
}

// P16.2, Get

func TestGetOfNone(t *testing.T) {
	for _, epoch := range append(edges(), 2, 5, 1000) {
		lacks(t, "of none", nil, epoch)
	}
}

func TestGetOfEachThatIsThere(t *testing.T) {
	for count := 1; count <= 4; count++ {
		l := olds(tens(count)...)
		for _, e := range l {
			gets(t, "one that is there", l, e.Epoch, e, true)
		}
	}
	gets(t, "the zero entry", []Entry{{}}, 0, Entry{}, true)
	gets(t, "one that has an epoch alone", []Entry{{Epoch: 5}}, 5, Entry{Epoch: 5}, true)
}

// TestGetOfEpochsThatAreNot: ahead of all, between any two, and behind all; nor by what is a key, or stands in a Window, there.
func TestGetOfEpochsThatAreNot(t *testing.T) {
	for count := range 5 {
		l := olds(tens(count)...)
		for place := range count + 1 {
			for _, epoch := range []int{10*place + 1, 10*place + 5, 10*place + 9} {
				lacks(t, "one that is not there", l, epoch)
			}
		}
		for _, epoch := range []int{-10, -1, 0, math.MinInt, math.MaxInt, 10 + 1<<32, 10 + math.MinInt, alien().Epoch} {
			lacks(t, "one that is not there", l, epoch)
		}
		for _, e := range l {
			lacks(t, "a key", l, e.Key)
			lacks(t, "a window's Next", l, int(e.W.Next))
		}
	}
}

// P16.2, Keys

func TestKeysInOrder(t *testing.T) {
	w := window.Window{Next: 4, Bits: 9}
	for _, x := range []struct {
		why  string
		want []int
	}{
		{"none", nil},
		{"one", []int{9}},
		{"one that is 0", []int{0}},
		{"one below 0", []int{-1}},
		{"two that rise", []int{1, 2}},
		{"two that fall", []int{2, 1}},
		{"two that are alike", []int{7, 7}},
		{"three in no order", []int{5, 9, 1}},
		{"three that are 0", []int{0, 0, 0}},
		{"the edges", []int{math.MaxInt, math.MinInt, 0, -1}},
		{"four that fall", []int{4, 3, 2, 1}},
		{"four that are alike", []int{-5, -5, -5, -5}},
		{"four, of which two are alike", []int{3, 8, 3, 1}},
	} {
		for _, start := range []int{math.MinInt, -2, 0, 1, 996, math.MaxInt - 3} {
			var l []Entry
			for i, key := range x.want {
				l = append(l, Entry{start + i, key, w})
			}
			keys(t, x.why, l, x.want...)
		}
	}
}

// All calls, of all epochs at the edges

// subset are those of some entries whose digits are 1.
func subset(l []Entry, digits int) []Entry {
	var some []Entry
	for i, e := range l {
		if digits>>i&1 == 1 {
			some = append(some, e)
		}
	}
	return some
}

// keysOf are entries' keys.
func keysOf(l []Entry) []int {
	var some []int
	for _, e := range l {
		some = append(some, e.Key)
	}
	return some
}

// TestAllCallsAtTheEdges: of each Cache of at most four of the epochs at the edges, each call of each of these.
func TestAllCallsAtTheEdges(t *testing.T) {
	all := olds(edges()...)
	for digits := range 1 << len(all) {
		l := subset(all, digits)
		if len(l) > 4 {
			continue
		}
		keys(t, "at the edges", l, keysOf(l)...)
		for i, e := range all {
			if digits>>i&1 == 1 {
				place := len(subset(all, digits&(1<<i-1)))
				fits(t, "at the edges, there already", l, young(e.Epoch), with(lacking(l, place), place, young(e.Epoch)))
				drops(t, "at the edges", l, e.Epoch, lacking(l, place))
				gets(t, "at the edges", l, e.Epoch, e, true)
				continue
			}
			drops(t, "at the edges, not there", l, e.Epoch, l)
			lacks(t, "at the edges", l, e.Epoch)
			if more := subset(all, digits|1<<i); len(more) > 4 {
				puts(t, "at the edges, the fifth", l, e, more[1:], more[0], true)
			} else {
				fits(t, "at the edges", l, e, more)
			}
		}
	}
}

// P16.3, and any order of calls

// plain is what is kept, by epochs: by the promises' words what a Cache tells.
type plain map[int]Entry

// put puts an entry, and tells which one goes.
func (p plain) put(e Entry) (Entry, bool) {
	p[e.Epoch] = e
	if len(p) <= 4 {
		return Entry{}, false
	}
	least := e
	for _, x := range p {
		if x.Epoch < least.Epoch {
			least = x
		}
	}
	delete(p, least.Epoch)
	return least, true
}

// list are its entries, rising: each one behind as many as are below it.
func (p plain) list() []Entry {
	l := make([]Entry, len(p))
	for _, e := range p {
		below := 0
		for _, x := range p {
			if x.Epoch < e.Epoch {
				below++
			}
		}
		l[below] = e
	}
	return l
}

// pair is a Cache, and a plain one, to which the same is done.
type pair struct {
	c Cache
	p plain
}

// fresh is a pair to which nothing was done.
func fresh() *pair { return &pair{p: plain{}} }

// put looks whether Put does as the plain one tells, and what follows of it: what is put is got, and the others stay, unless it is the least of five.
func (x *pair) put(t *testing.T, why string, e Entry) {
	t.Helper()
	ahead := slices.Clone(x.c.L)
	c, went, is := x.c.Put(e)
	if goes, want := x.p.put(e); went != goes || is != want {
		t.Fatalf("%s: behind Put of %+v into %+v there goes %+v, %t, not %+v, %t", why, e, ahead, went, is, goes, want)
	}
	if got, ok := c.Get(e.Epoch); is && went == e {
		if ok || got != (Entry{}) || !slices.Equal(c.L, ahead) {
			t.Fatalf("%s: behind Put of %+v, that is the least, into %+v there are %+v", why, e, ahead, c.L)
		}
	} else if got != e || !ok {
		t.Fatalf("%s: behind Put of %+v into %+v Get tells %+v, %t", why, e, ahead, got, ok)
	}
	for _, other := range ahead {
		if got, ok := c.Get(other.Epoch); other.Epoch != e.Epoch && other != went && (got != other || !ok) {
			t.Fatalf("%s: behind Put of %+v into %+v Get tells %+v, %t of another one", why, e, ahead, got, ok)
		}
	}
	x.goOn(t, why, ahead, c)
}

func (x *pair) drop(t *testing.T, why string, epoch int) {
	t.Helper()
	ahead := slices.Clone(x.c.L)
	delete(x.p, epoch)
	x.goOn(t, why, ahead, x.c.Drop(epoch))
}

// goOn looks whether the Cache that was stays, and whether the next one tells what is due.
func (x *pair) goOn(t *testing.T, why string, ahead []Entry, next Cache) {
	t.Helper()
	want := x.p.list()
	if len(next.L) > 4 || !slices.Equal(next.L, want) {
		t.Fatalf("%s: behind %+v there are %+v, not %+v", why, ahead, next.L, want)
	}
	if !slices.Equal(x.c.L, ahead) {
		t.Fatalf("%s: of %+v is made %+v", why, ahead, x.c.L)
	}
	if got := next.Keys(); !slices.Equal(got, keysOf(want)) {
		t.Fatalf("%s: the keys of %+v are %v", why, want, got)
	}
	x.c = next
}

// tells looks what Get tells of epochs.
func (x *pair) tells(t *testing.T, why string, epochs ...int) {
	t.Helper()
	for _, epoch := range epochs {
		want, is := x.p[epoch]
		if got, ok := x.c.Get(epoch); got != want || ok != is {
			t.Fatalf("%s: Get(%d) of %+v = %+v, %t", why, epoch, x.c.L, got, ok)
		}
	}
}

// TestAllShortRows: each row of a few Puts and Drops, of six epochs; no two Puts put the same entry.
func TestAllShortRows(t *testing.T) {
	epochs := []int{math.MinInt, -1, 0, 1, 2, math.MaxInt}
	samples.Texts("\x00\x01\x02\x03\x04\x05\x06\x07\x08\x09\x0a\x0b", 4, func(s string) {
		x := fresh()
		for i := range len(s) {
			epoch := epochs[s[i]%6]
			if s[i] < 6 {
				x.put(t, "a short row", Entry{epoch, i, window.Window{Next: uint64(s[i])}})
			} else {
				x.drop(t, "a short row", epoch)
			}
		}
		x.tells(t, "a short row", epochs...)
	})
}

// TestAllRowsOfPuts: each row of up to six Puts, of six epochs.
func TestAllRowsOfPuts(t *testing.T) {
	epochs := []int{-3, 0, 1, 5, 6, 1 << 40}
	samples.Texts("\x00\x01\x02\x03\x04\x05", 6, func(s string) {
		x := fresh()
		for i := range len(s) {
			x.put(t, "a row of Puts", Entry{epochs[s[i]], i, window.Window{Bits: uint64(i)}})
		}
		x.tells(t, "a row of Puts", epochs...)
	})
}

// TestRowsOfDozens: of Puts and Drops in any order, of few epochs and of many.
func TestRowsOfDozens(t *testing.T) {
	for seed := range int64(400) {
		r := rand.New(rand.NewSource(seed))
		epochs := edges()
		if span := 1 + r.Intn(20); seed%2 == 0 {
			epochs = nil
			for epoch := range span {
				epochs = append(epochs, epoch-3)
			}
		}
		often := 1 + r.Intn(4)
		x := fresh()
		for i := range 60 {
			epoch := epochs[r.Intn(len(epochs))]
			if r.Intn(5) < often {
				x.put(t, "a long row", Entry{epoch, r.Intn(9) - 2, window.Window{Next: r.Uint64(), Bits: uint64(i)}})
			} else {
				x.drop(t, "a long row", epoch)
			}
			x.tells(t, "a long row", epochs...)
		}
	}
}

// TestRowsThatRise: as a session's epochs come, the last four are kept, and each other one goes in its turn.
func TestRowsThatRise(t *testing.T) {
	x := fresh()
	for epoch := range 1001 {
		x.put(t, "a row that rises", old(epoch))
		want := []int{epoch - 3, epoch - 2, epoch - 1, epoch}[max(0, 3-epoch):]
		if !slices.Equal(x.c.L, olds(want...)) {
			t.Errorf("behind the epoch %d there are %+v", epoch, x.c.L)
		}
	}
	for epoch := 995; epoch >= 0; epoch-- {
		x.put(t, "a row that falls", young(epoch))
	}
	if !slices.Equal(x.c.L, olds(997, 998, 999, 1000)) {
		t.Errorf("behind all epochs there are %+v", x.c.L)
	}
}

// TestOneOfWhateverOrder: of epochs that are put, in whatever order, the four greatest ones are kept, and all others go, each once.
func TestOneOfWhateverOrder(t *testing.T) {
	for count := 1; count <= 6; count++ {
		all := olds(edges()[9-count:]...)
		gone := max(0, count-4)
		samples.Orders(all, func(l []Entry) {
			var c Cache
			var went []Entry
			for _, e := range l {
				next, x, is := c.Put(e)
				if is {
					went = append(went, x)
				}
				c = next
			}
			slices.SortFunc(went, func(a, b Entry) int { return slices.Index(all, a) - slices.Index(all, b) })
			if !slices.Equal(c.L, all[gone:]) || !slices.Equal(went, all[:gone]) {
				t.Errorf("behind Put of %+v there are %+v, and gone are %+v", l, c.L, went)
			}
		})
	}
}

// TestDropMakesRoom: behind it, a fifth one has the place of the one that is no more, and none goes; nor does what was dropped come again.
func TestDropMakesRoom(t *testing.T) {
	for _, epoch := range []int{10, 20, 30, 40} {
		for _, more := range []int{5, 15, 25, 35, 45} {
			x := fresh()
			for _, e := range olds(10, 20, 30, 40) {
				x.put(t, "four", e)
			}
			x.drop(t, "one of four", epoch)
			x.put(t, "another one", old(more))
			if len(x.c.L) != 4 {
				t.Errorf("behind Drop of %d and Put of %d there are %+v", epoch, more, x.c.L)
			}
			x.tells(t, "one that was dropped", epoch, more)
		}
	}
}

// What holds of all calls

// TestNoneAndEmpty: a nil list and an empty one, also with spare room behind it, are the same.
func TestNoneAndEmpty(t *testing.T) {
	room := slices.Repeat([]Entry{alien()}, 8)
	for _, c := range []Cache{{}, {L: []Entry{}}, {L: make([]Entry, 0, 8)}, {L: room[:0]}, {L: room[3:3:5]}, Cache{}.Drop(1), Cache{L: olds(1)}.Drop(1)} {
		if l := c.Keys(); len(l) != 0 {
			t.Errorf("the keys of none are %v", l)
		}
		if e, is := c.Get(alien().Epoch); e != (Entry{}) || is {
			t.Errorf("of none Get tells %+v, %t", e, is)
		}
		if l := c.Drop(0).L; len(l) != 0 {
			t.Errorf("behind Drop of none there are %+v", l)
		}
		if next, went, is := c.Put(old(7)); !slices.Equal(next.L, olds(7)) || went != (Entry{}) || is {
			t.Errorf("behind Put into none there are %+v, and %+v goes, %t", next.L, went, is)
		}
	}
	for _, e := range room {
		if e != alien() {
			t.Errorf("in the room of no entries stands %+v", e)
		}
	}
}

// TestAnswersShareNothing: with the Cache of which they are told, nor with each other, whichever of them is changed, and the room behind it.
func TestAnswersShareNothing(t *testing.T) {
	answers := func(c Cache) [][]Entry {
		replaced, _, _ := c.Put(young(20))
		ahead, _, _ := c.Put(old(5))
		between, _, _ := c.Put(old(25))
		behind, _, _ := c.Put(old(45))
		return [][]Entry{replaced.L, ahead.L, between.L, behind.L, c.Drop(10).L, c.Drop(40).L, c.Drop(77).L, replaced.Drop(77).L, behind.Drop(45).L}
	}
	for count := range 5 {
		l := olds(tens(count)...)
		want := answers(Cache{slices.Clone(l)})
		for which := range want {
			x := inRoom(l, 8)
			got, numbers := answers(x.c), x.c.Keys()
			spoil(got[which], alien())
			x.stays(t, "an answer being changed")
			for i := range got {
				if i != which && !slices.Equal(got[i], want[i]) {
					t.Errorf("once answer %d is changed, answer %d is %+v, not %+v", which, i, got[i], want[i])
				}
			}
			if !slices.Equal(numbers, keysOf(l)) {
				t.Errorf("once answer %d is changed, the keys are %v", which, numbers)
			}
		}
		x := inRoom(l, 8)
		got, numbers, others := answers(x.c), x.c.Keys(), x.c.Keys()
		spoil(x.memory, alien())
		spoil(numbers, -88888)
		for i := range got {
			if !slices.Equal(got[i], want[i]) {
				t.Errorf("once the Cache is changed, answer %d is %+v, not %+v", i, got[i], want[i])
			}
		}
		if !slices.Equal(others, keysOf(l)) {
			t.Errorf("once the Cache and its keys are changed, other keys are %v", others)
		}
	}
}

// TestCopiesGoTheirOwnWays: what is done with one of them is not seen in another one (R7).
func TestCopiesGoTheirOwnWays(t *testing.T) {
	c := Cache{L: append(make([]Entry, 0, 9), olds(10, 20, 30)...)}
	early := c
	one, _, _ := c.Put(old(5))
	other, _, _ := early.Put(old(40))
	c, _, _ = c.Put(young(20))
	late := c
	c = c.Drop(30)
	last, went, is := one.Put(old(25))
	for _, x := range []struct {
		why       string
		got, want []Entry
	}{
		{"the early copy", early.L, olds(10, 20, 30)},
		{"one way", one.L, olds(5, 10, 20, 30)},
		{"another way", other.L, olds(10, 20, 30, 40)},
		{"the late copy", late.L, []Entry{old(10), young(20), old(30)}},
		{"the original", c.L, []Entry{old(10), young(20)}},
		{"one way, on", last.L, olds(10, 20, 25, 30)},
	} {
		if !slices.Equal(x.got, x.want) {
			t.Errorf("%s has %+v, not %+v", x.why, x.got, x.want)
		}
	}
	if went != old(5) || !is {
		t.Errorf("on one way there goes %+v, %t", went, is)
	}
}

// TestWhatGoesIsNoMore: neither what Drop drops, nor what goes for want of room, nor what is replaced, is left in the room behind what is told.
func TestWhatGoesIsNoMore(t *testing.T) {
	var roots []Cache
	for count := 1; count <= 4; count++ {
		roots = append(roots, inRoom(olds(tens(count)...), 3).c)
	}
	for _, c := range roots {
		for _, e := range c.L {
			dropped := c.Drop(e.Epoch).L
			if slices.Contains(dropped[:cap(dropped)], e) {
				t.Errorf("behind Drop of %d there stands %+v", e.Epoch, dropped[:cap(dropped)])
			}
			replaced, _, _ := c.Put(young(e.Epoch))
			if l := replaced.L[:cap(replaced.L)]; slices.Contains(l, e) {
				t.Errorf("behind Put of %d anew there stands %+v", e.Epoch, l)
			}
		}
	}
	for _, epoch := range []int{5, 15, 45} {
		c, went, is := roots[3].Put(young(epoch))
		if l := c.L[:cap(c.L)]; !is || slices.Contains(l, went) {
			t.Errorf("behind Put of %d, and %+v, that goes, there stands %+v", epoch, went, l)
		}
	}
}
