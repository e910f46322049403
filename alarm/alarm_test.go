package alarm

import (
	"fmt"
	"math"
	"math/rand"
	"slices"
	"testing"
	"unsafe"

	"sough/api"
	"sough/samples"
)

// last is the last time that there is.
const last = math.MaxUint64

// plain are alarms in a list, that is kept in order: by the promises' words what Alarms tell.
type plain struct {
	most int
	l    []alarm
}

func (p *plain) put(id, at uint64) api.Errno {
	place := p.place(id)
	if place < 0 && len(p.l) >= p.most {
		return api.ErrFull
	}
	if place >= 0 {
		p.l = slices.Delete(p.l, place, place+1)
	}
	place = 0
	for place < len(p.l) && (p.l[place].at < at || p.l[place].at == at && p.l[place].id < id) {
		place++
	}
	p.l = slices.Insert(p.l, place, alarm{id, at})
	return api.OK
}

func (p *plain) drop(id uint64) bool {
	place := p.place(id)
	if place < 0 {
		return false
	}
	p.l = slices.Delete(p.l, place, place+1)
	return true
}

func (p *plain) due(now uint64) []uint64 {
	var ids []uint64
	for len(p.l) > 0 && p.l[0].at <= now {
		ids = append(ids, p.l[0].id)
		p.l = slices.Delete(p.l, 0, 1)
	}
	return ids
}

func (p *plain) place(id uint64) int {
	return slices.IndexFunc(p.l, func(a alarm) bool { return a.id == id })
}

// pair is Alarms, and a plain list, to which the same is done.
type pair struct {
	a *Alarms
	p *plain
}

// fresh is a pair of none, with room for so many.
func fresh(most int) pair { return pair{New(most), &plain{most: most}} }

// filled is a pair with these alarms, and room for so many.
func filled(t *testing.T, most int, l ...alarm) pair {
	t.Helper()
	x := fresh(most)
	for _, a := range l {
		x.put(t, "some alarm", a.id, a.at)
	}
	return x
}

// put looks what Put tells.
func (x pair) put(t *testing.T, why string, id, at uint64) {
	t.Helper()
	if got, want := x.a.Put(id, at), x.p.put(id, at); got != want {
		t.Errorf("%s: Put(%d, %d) = %d, not %d", why, id, at, got, want)
	}
	x.same(t, why)
}

// drop looks what Drop tells.
func (x pair) drop(t *testing.T, why string, id uint64) {
	t.Helper()
	if got, want := x.a.Drop(id), x.p.drop(id); got != want {
		t.Errorf("%s: Drop(%d) = %t, not %t", why, id, got, want)
	}
	x.same(t, why)
}

// due looks what Due tells.
func (x pair) due(t *testing.T, why string, now uint64) {
	t.Helper()
	if got, want := x.a.Due(now), x.p.due(now); !slices.Equal(got, want) {
		t.Errorf("%s: Due(%d) = %v, not %v", why, now, got, want)
	}
	x.same(t, why)
}

// same looks what Len and First tell, asked once and again.
func (x pair) same(t *testing.T, why string) {
	t.Helper()
	for range 2 {
		if got := x.a.Len(); got != len(x.p.l) {
			t.Errorf("%s: Len() = %d, not %d", why, got, len(x.p.l))
		}
		at, is := x.a.First()
		if is != (len(x.p.l) > 0) || is && at != x.p.l[0].at || !is && at != 0 {
			t.Errorf("%s: First() = %d, %t, of %v", why, at, is, short(x.p.l))
		}
	}
}

// end looks in which order all are due that are left.
func (x pair) end(t *testing.T, why string) {
	t.Helper()
	x.due(t, why+", at the end", last)
	if x.a.Len() != 0 {
		t.Errorf("%s: %d are left behind the last time", why, x.a.Len())
	}
}

// short tells the first ones of a list.
func short(l []alarm) string { return fmt.Sprint(l[:min(len(l), 20)], " of ", len(l)) }

// dues looks what Due tells, by its ids.
func dues(t *testing.T, why string, a *Alarms, now uint64, want ...uint64) {
	t.Helper()
	if got := a.Due(now); !slices.Equal(got, want) {
		t.Errorf("%s: Due(%d) = %v, not %v", why, now, got, want)
	}
}

// puts looks what Put tells.
func puts(t *testing.T, why string, a *Alarms, id, at uint64, want api.Errno) {
	t.Helper()
	if got := a.Put(id, at); got != want {
		t.Errorf("%s: Put(%d, %d) = %d, not %d", why, id, at, got, want)
	}
}

// drops looks what Drop tells.
func drops(t *testing.T, why string, a *Alarms, id uint64, want bool) {
	t.Helper()
	if got := a.Drop(id); got != want {
		t.Errorf("%s: Drop(%d) = %t", why, id, got)
	}
}

// first looks what First tells.
func first(t *testing.T, why string, a *Alarms, want uint64, wantIs bool) {
	t.Helper()
	if at, is := a.First(); at != want || is != wantIs {
		t.Errorf("%s: First() = %d, %t, not %d, %t", why, at, is, want, wantIs)
	}
}

// has looks what Len tells.
func has(t *testing.T, why string, a *Alarms, want int) {
	t.Helper()
	if got := a.Len(); got != want {
		t.Errorf("%s: Len() = %d, not %d", why, got, want)
	}
}

// several are some alarms, of which some are due at one time.
func several() []alarm {
	return []alarm{{7, 20}, {3, 20}, {9, 10}, {0, 30}, {last, 20}, {5, 0}, {4, last}, {6, 40}}
}

func TestExamplesOfTheChapter(t *testing.T) {
	a := New(3)
	puts(t, "the example", a, 7, 20, api.OK)
	puts(t, "the example", a, 3, 20, api.OK)
	puts(t, "the example", a, 9, 10, api.OK)
	dues(t, "the example", a, 20, 9, 3, 7)
}

// P12.1

func TestNewHasNone(t *testing.T) {
	for _, most := range []int{math.MinInt, -1000, -1, 0, 1, 2, 3, 1000, 1 << 31, 1 << 32, math.MaxInt - 1, math.MaxInt} {
		x := fresh(most)
		x.same(t, "none yet")
		for _, now := range samples.Numbers() {
			x.due(t, "none yet", now)
			x.drop(t, "none yet", now)
		}
	}
}

func TestNewWithRoomForNone(t *testing.T) {
	for _, most := range []int{0, -1, -2, -1 << 32, math.MinInt, math.MinInt + 1} {
		a := New(most)
		for _, id := range samples.Numbers() {
			for _, at := range samples.Numbers() {
				puts(t, "room for none", a, id, at, api.ErrFull)
				has(t, "room for none", a, 0)
				first(t, "room for none", a, 0, false)
				drops(t, "room for none", a, id, false)
			}
		}
		dues(t, "room for none", a, last)
	}
}

// TestNewWithRoomForSoMany: as many as there is room for can be put, and not one more.
func TestNewWithRoomForSoMany(t *testing.T) {
	for _, most := range []int{1, 2, 3, 4, 5, 7, 8, 9, 15, 16, 17, 100, 255, 256, 257} {
		a := New(most)
		for i := range most {
			puts(t, "there is room", a, uint64(i), uint64(i%5), api.OK)
			has(t, "there is room", a, i+1)
		}
		for id := most; id < most+3; id++ {
			puts(t, "there is no room", a, uint64(id), 0, api.ErrFull)
			has(t, "there is no room", a, most)
		}
		if got := len(a.Due(last)); got != most {
			t.Errorf("of room for %d, %d are due", most, got)
		}
		has(t, "all were due", a, 0)
	}
}

// TestVeryMany: with room for very many, a great many are put, moved and dropped, and due in order.
func TestVeryMany(t *testing.T) {
	const many = 200000
	for _, most := range []int{many, 1 << 40, math.MaxInt} {
		a := New(most)
		for i := range uint64(many) {
			puts(t, "one of very many", a, i*7919%many, i*104729%50021, api.OK)
		}
		has(t, "very many", a, many)
		var want []alarm
		for i := range uint64(many) {
			id, at := i*7919%many, i*104729%50021
			switch i % 4 {
			case 0:
				drops(t, "one of very many", a, id, true)
				continue
			case 1:
				at = many - at
				puts(t, "one of very many is moved", a, id, at, api.OK)
			}
			want = append(want, alarm{id, at})
		}
		has(t, "very many, of which some are dropped", a, len(want))
		slices.SortFunc(want, inOrder)
		ids := make([]uint64, len(want))
		for i, x := range want {
			ids[i] = x.id
		}
		if got := slices.Concat(a.Due(30000), a.Due(last)); !slices.Equal(got, ids) {
			t.Errorf("%d of very many are due, not in order", len(got))
		}
		has(t, "very many were due", a, 0)
	}
}

// inOrder tells which of two alarms comes first.
func inOrder(a, b alarm) int {
	switch {
	case a == b:
		return 0
	case a.at < b.at, a.at == b.at && a.id < b.id:
		return -1
	}
	return 1
}

func TestLenBehindEachCall(t *testing.T) {
	a := New(2)
	has(t, "none", a, 0)
	puts(t, "the first one", a, 5, 50, api.OK)
	has(t, "one", a, 1)
	puts(t, "the same one", a, 5, 50, api.OK)
	has(t, "one, put again", a, 1)
	puts(t, "the same one moved", a, 5, 60, api.OK)
	has(t, "one, moved", a, 1)
	puts(t, "the second one", a, 6, 10, api.OK)
	has(t, "two", a, 2)
	puts(t, "a third one", a, 7, 10, api.ErrFull)
	has(t, "two, and one refused", a, 2)
	drops(t, "one that is not there", a, 7, false)
	has(t, "two, and none dropped", a, 2)
	dues(t, "ahead of all", a, 9)
	has(t, "two, and none due", a, 2)
	first(t, "the second one", a, 10, true)
	has(t, "two, asked for the first one", a, 2)
	dues(t, "the second one", a, 10, 6)
	has(t, "one was due", a, 1)
	drops(t, "the first one", a, 5, true)
	has(t, "none is left", a, 0)
}

// P12.2

// TestPutOfManyNumbers: each number may be an alarm's, and each one its time.
func TestPutOfManyNumbers(t *testing.T) {
	for _, id := range append(samples.Numbers(), 3, 1<<31, 1<<32-1) {
		for _, at := range append(samples.Numbers(), 3, 1<<31, 1<<32-1) {
			a := New(1)
			puts(t, "an ordinary one", a, id, at, api.OK)
			first(t, "an ordinary one", a, at, true)
			if at > 0 {
				dues(t, "ahead of its time", a, at-1)
			}
			has(t, "an ordinary one", a, 1)
			dues(t, "at its time", a, at, id)
			dues(t, "again", a, at)
		}
	}
	x := filled(t, 100)
	for i, id := range samples.Numbers() {
		x.put(t, "the same number, turned", id, samples.Numbers()[len(samples.Numbers())-1-i])
	}
	x.end(t, "the same numbers, turned")
}

// TestPutOfOneThatIsThere: it is moved, to whatever time, where there is room and where there is none.
func TestPutOfOneThatIsThere(t *testing.T) {
	l := several()
	for _, most := range []int{len(l), len(l) + 1, 1000} {
		for _, one := range l {
			for _, at := range append(samples.Numbers(), 9, 10, 11, 19, 20, 21, 29, 30, 31, 39, 40, 41) {
				x := filled(t, most, l...)
				x.put(t, "one that is there", one.id, at)
				has(t, "one was moved", x.a, len(l))
				x.put(t, "one that is there, back", one.id, one.at)
				x.put(t, "one that is there, again", one.id, at)
				x.put(t, "one that is there, where it is", one.id, at)
				x.due(t, "the first ones", 20)
				x.end(t, "one was moved")
			}
		}
	}
}

func TestPutOfOneThatIsThereTells(t *testing.T) {
	for _, most := range []int{2, 3} {
		for _, x := range []struct {
			at   uint64
			want []uint64
		}{{0, []uint64{5, 4}}, {9, []uint64{5, 4}}, {10, []uint64{4, 5}}, {20, []uint64{4, 5}}, {last, []uint64{4, 5}}} {
			a := New(most)
			puts(t, "one", a, 4, 10, api.OK)
			puts(t, "the other one", a, 5, 20, api.OK)
			puts(t, "one that is there", a, 5, x.at, api.OK)
			has(t, "one was moved", a, 2)
			first(t, "one was moved", a, min(x.at, 10), true)
			dues(t, "one was moved", a, last, x.want...)
		}
	}
}

// TestPutWhereThereIsNoRoom: a new one is refused, and all stay as they were.
func TestPutWhereThereIsNoRoom(t *testing.T) {
	l := several()
	for most := range len(l) {
		x := filled(t, most, l[:most]...)
		for _, one := range l[most:] {
			for _, at := range []uint64{0, 9, 10, 20, 25, last} {
				puts(t, "there is no room", x.a, one.id, at, api.ErrFull)
				x.same(t, "one was refused")
			}
			drops(t, "one that was refused", x.a, one.id, false)
		}
		for _, one := range l[:most] {
			x.put(t, "one that is there", one.id, one.at+1)
			puts(t, "there is no room behind that", x.a, 1000, 0, api.ErrFull)
		}
		x.end(t, "some were refused")
		for _, one := range l[:most] {
			x.put(t, "there is room again", one.id, one.at)
		}
		puts(t, "there is none again", x.a, 1000, 0, api.ErrFull)
		x.end(t, "put again")
	}
}

// TestPutWhereRoomWasMade: behind a Drop, or a Due, there is room for as many new ones as went.
func TestPutWhereRoomWasMade(t *testing.T) {
	x := filled(t, 3, alarm{1, 10}, alarm{2, 20}, alarm{3, 30})
	x.put(t, "no room", 4, 5)
	x.drop(t, "one of three", 2)
	x.put(t, "room for one", 4, 5)
	x.put(t, "no room again", 5, 5)
	x.put(t, "nor for the one that was dropped", 2, 20)
	x.due(t, "two of three", 10)
	x.put(t, "room for two", 5, 1)
	x.put(t, "room for one", 2, 40)
	x.put(t, "no room again", 6, 1)
	x.drop(t, "one that is not there", 1)
	x.put(t, "that made no room", 1, 1)
	x.due(t, "ahead of all", 0)
	x.put(t, "nor did that", 1, 1)
	if want := []alarm{{5, 1}, {3, 30}, {2, 40}}; !slices.Equal(x.p.l, want) {
		t.Errorf("there are %v, not %v", x.p.l, want)
	}
	x.end(t, "room was made")
}

// TestDropOfEachOne: wherever it stands, the others stay in their order.
func TestDropOfEachOne(t *testing.T) {
	l := several()
	for count := 1; count <= len(l); count++ {
		for _, one := range l[:count] {
			x := filled(t, count, l[:count]...)
			x.drop(t, "one that is there", one.id)
			has(t, "one was dropped", x.a, count-1)
			x.drop(t, "one that was dropped", one.id)
			x.drop(t, "one that never was", 1000)
			x.end(t, "one was dropped")
			x.drop(t, "one that was due", one.id)
		}
	}
}

// TestDropOfAllInEveryOrder: until none is left, each of them is there once.
func TestDropOfAllInEveryOrder(t *testing.T) {
	l := several()[:6]
	samples.Orders(l, func(order []alarm) {
		x := filled(t, len(l), l...)
		for _, one := range order {
			x.drop(t, "one that is there", one.id)
			x.drop(t, "one that was dropped", one.id)
		}
		has(t, "all were dropped", x.a, 0)
		x.end(t, "all were dropped")
	})
}

func TestDropOfOneThatIsNotThere(t *testing.T) {
	x := fresh(10)
	for _, id := range samples.Numbers() {
		x.drop(t, "one of none", id)
	}
	x = filled(t, 10, several()...)
	for _, id := range []uint64{1, 2, 8, 10, 20, 30, 40, last - 1, 1 << 32, 1<<32 + 7, 1 << 63} {
		drops(t, "one that is not there", x.a, id, false)
		x.same(t, "none was dropped")
	}
	x.due(t, "three of them", 19)
	for _, id := range []uint64{5, 9} {
		drops(t, "one that was due", x.a, id, false)
		x.same(t, "none was dropped")
	}
	drops(t, "one that is not due yet", x.a, 3, true)
	drops(t, "the same one", x.a, 3, false)
	dues(t, "the others", x.a, last, 7, last, 0, 6, 4)
	for _, one := range several() {
		drops(t, "one of none that are left", x.a, one.id, false)
	}
}

func TestDropOfOneThatIsPutAgain(t *testing.T) {
	a := New(2)
	for at := range uint64(5) {
		puts(t, "one", a, 7, at, api.OK)
		drops(t, "it", a, 7, true)
		drops(t, "it again", a, 7, false)
		first(t, "none", a, 0, false)
	}
	puts(t, "it, at last", a, 7, 9, api.OK)
	dues(t, "at the times that were", a, 8)
	dues(t, "at its time", a, 9, 7)
	drops(t, "it, that was due", a, 7, false)
	puts(t, "it, behind that", a, 7, 3, api.OK)
	drops(t, "it, behind that", a, 7, true)
}

// P12.3

func TestDueAtManyTimes(t *testing.T) {
	for _, x := range []struct {
		now   uint64
		want  []uint64
		first uint64
		is    bool
	}{
		{0, nil, 10, true},
		{1, nil, 10, true},
		{9, nil, 10, true},
		{10, []uint64{9}, 20, true},
		{11, []uint64{9}, 20, true},
		{19, []uint64{9}, 20, true},
		{20, []uint64{9, 3, 7}, 30, true},
		{21, []uint64{9, 3, 7}, 30, true},
		{29, []uint64{9, 3, 7}, 30, true},
		{30, []uint64{9, 3, 7, 1}, 0, false},
		{31, []uint64{9, 3, 7, 1}, 0, false},
		{1 << 32, []uint64{9, 3, 7, 1}, 0, false},
		{1 << 63, []uint64{9, 3, 7, 1}, 0, false},
		{last, []uint64{9, 3, 7, 1}, 0, false},
	} {
		a := New(4)
		for _, one := range []alarm{{7, 20}, {1, 30}, {3, 20}, {9, 10}} {
			puts(t, "one of four", a, one.id, one.at, api.OK)
		}
		dues(t, "some of four", a, x.now, x.want...)
		has(t, "some of four were due", a, 4-len(x.want))
		first(t, "some of four were due", a, x.first, x.is)
		dues(t, "again", a, x.now)
		has(t, "again", a, 4-len(x.want))
		first(t, "again", a, x.first, x.is)
	}
}

func TestDueAtTheEnds(t *testing.T) {
	x := filled(t, 9, alarm{4, 0}, alarm{2, 0}, alarm{1, 1}, alarm{8, last}, alarm{6, last}, alarm{9, last - 1})
	first(t, "one at the time 0", x.a, 0, true)
	x.due(t, "at 0", 0)
	x.due(t, "at 0 again", 0)
	first(t, "one at the time 1", x.a, 1, true)
	x.due(t, "ahead of the last two times", last-2)
	x.due(t, "ahead of the last time", last-1)
	first(t, "one at the last time", x.a, last, true)
	x.due(t, "at the last time", last)
	first(t, "none", x.a, 0, false)
}

func TestDueOfNone(t *testing.T) {
	for _, now := range samples.Numbers() {
		x := fresh(3)
		x.due(t, "of none", now)
		x.put(t, "one", 1, now)
		x.drop(t, "one", 1)
		x.due(t, "of none that are left", now)
		x.put(t, "one", 1, now)
		x.due(t, "one", now)
		x.due(t, "of none that are left", now)
	}
}

// TestDueIsNotDueAgain: unless it is put again.
func TestDueIsNotDueAgain(t *testing.T) {
	x := filled(t, 8, several()...)
	for now := range uint64(45) {
		x.due(t, "now", now)
		x.due(t, "now again", now)
		x.due(t, "earlier", now/2)
	}
	for _, one := range several()[:3] {
		x.put(t, "one that was due", one.id, one.at)
		x.due(t, "ahead of its time", one.at-1)
		x.due(t, "at its time", one.at)
		x.due(t, "behind its time", one.at+1)
	}
	x.end(t, "the last one")
}

// TestManyOfOneTime: the lesser number comes first.
func TestManyOfOneTime(t *testing.T) {
	r := rand.New(rand.NewSource(12))
	for count := range 60 {
		x := fresh(count)
		for _, i := range r.Perm(count) {
			x.put(t, "one of many of one time", uint64(i)*uint64(i), 77)
		}
		x.due(t, "ahead of their time", 76)
		x.end(t, "many of one time")
	}
	a := New(100)
	for _, id := range []uint64{1 << 63, last, 255, 1<<32 + 1, 0, 256, 1 << 32, 1<<63 - 1, 1, last - 1, 2} {
		puts(t, "one of many of one time", a, id, 5, api.OK)
	}
	dues(t, "many of one time", a, 5, 0, 1, 2, 255, 256, 1<<32, 1<<32+1, 1<<63-1, 1<<63, last-1, last)
}

// TestEarlierTimeComesFirst: whatever the numbers are.
func TestEarlierTimeComesFirst(t *testing.T) {
	a := New(100)
	times := []uint64{1 << 63, last, 255, 1<<32 + 1, 0, 256, 1 << 32, 1<<63 - 1, 1, last - 1, 2}
	for _, at := range times {
		puts(t, "one of many", a, last-at, at, api.OK)
	}
	dues(t, "many, the lesser number the later one", a, last, last, last-1, last-2, last-255, last-256, last-1<<32, last-1<<32-1, 1<<63, 1<<63-1, 1, 0)
}

// TestFirstBehindEachCall: it is the least time of those that there are.
func TestFirstBehindEachCall(t *testing.T) {
	a := New(3)
	first(t, "none", a, 0, false)
	puts(t, "one", a, 5, 50, api.OK)
	first(t, "one", a, 50, true)
	puts(t, "a later one", a, 6, 60, api.OK)
	first(t, "a later one", a, 50, true)
	puts(t, "an earlier one", a, 4, 40, api.OK)
	first(t, "an earlier one", a, 40, true)
	puts(t, "no room", a, 1, 0, api.ErrFull)
	first(t, "no room", a, 40, true)
	puts(t, "the first one is moved behind", a, 4, 55, api.OK)
	first(t, "the first one is moved behind", a, 50, true)
	puts(t, "the last one is moved ahead", a, 6, 0, api.OK)
	first(t, "the last one is moved ahead, to 0", a, 0, true)
	drops(t, "the one at 0", a, 6, true)
	first(t, "the one at 0 was dropped", a, 50, true)
	drops(t, "one that is not there", a, 6, false)
	first(t, "none was dropped", a, 50, true)
	drops(t, "the last one", a, 4, true)
	first(t, "the last one was dropped", a, 50, true)
	dues(t, "none", a, 49)
	first(t, "none was due", a, 50, true)
	dues(t, "the only one", a, 50, 5)
	first(t, "the only one was due", a, 0, false)
	puts(t, "one at 0", a, 0, 0, api.OK)
	first(t, "one at 0", a, 0, true)
	drops(t, "the only one", a, 0, true)
	first(t, "the only one was dropped", a, 0, false)
}

// P12.4

// TestEveryOrder: in which order they were put makes no difference.
func TestEveryOrder(t *testing.T) {
	for _, l := range [][]alarm{several()[:7], {{1, 5}, {2, 5}, {3, 5}, {4, 5}, {5, 5}, {6, 5}}, {{1, 6}, {2, 5}, {3, 4}, {4, 3}, {5, 2}, {6, 1}}, {{1, 1}, {2, 2}, {3, 2}, {4, 3}, {5, 3}, {6, 3}}} {
		sorted := slices.SortedFunc(slices.Values(l), inOrder)
		samples.Orders(l, func(order []alarm) {
			a := New(len(l))
			for _, one := range order {
				puts(t, "some order", a, one.id, one.at, api.OK)
			}
			first(t, "some order", a, sorted[0].at, true)
			got := slices.Concat(a.Due(3), a.Due(20), a.Due(last))
			for i, one := range sorted {
				if got[i] != one.id {
					t.Fatalf("of %v, put in this order, %v are due", order, got)
				}
			}
		})
	}
}

// TestEveryOrderOfMoves: nor does it, in which they were moved, or from where.
func TestEveryOrderOfMoves(t *testing.T) {
	l := []alarm{{1, 50}, {2, 40}, {3, 30}, {4, 20}, {5, 10}}
	samples.Orders(l, func(order []alarm) {
		x := filled(t, 5, l...)
		for _, one := range order {
			x.put(t, "some order", one.id, 60-one.at)
		}
		dues(t, "all of them were moved", x.a, last, 1, 2, 3, 4, 5)
		x = filled(t, 5, l...)
		for i, one := range order {
			x.put(t, "some order, to times of two", one.id, uint64(i)/2*20+5)
		}
		x.end(t, "some order, to times of two")
	})
}

// TestMovedIsDueAtItsNewTime: and not at the one that was.
func TestMovedIsDueAtItsNewTime(t *testing.T) {
	for _, x := range []struct{ from, to uint64 }{{10, 20}, {20, 10}, {10, 0}, {0, 10}, {10, last}, {last, 10}, {0, last}, {last, 0}, {10, 10}, {10, 11}, {11, 10}} {
		a := New(2)
		puts(t, "another one", a, 9, 15, api.OK)
		puts(t, "one", a, 4, x.from, api.OK)
		puts(t, "it is moved", a, 4, x.to, api.OK)
		var want, rest []uint64
		if x.to <= 15 {
			want, rest = []uint64{4, 9}, nil
		} else {
			want, rest = []uint64{9}, []uint64{4}
		}
		dues(t, "moved", a, 15, want...)
		if x.to > 0 && len(rest) > 0 {
			dues(t, "ahead of its new time", a, x.to-1)
		}
		dues(t, "at its new time", a, max(x.to, 15), rest...)
		dues(t, "behind both", a, last)
	}
}

func TestDroppedIsNotDue(t *testing.T) {
	l := several()
	for which := range 1 << len(l) {
		x := filled(t, len(l), l...)
		for i, one := range l {
			if which>>i&1 == 1 {
				x.drop(t, "one of some", one.id)
			}
		}
		x.due(t, "some were dropped", 20)
		x.end(t, "some were dropped")
	}
}

// TestLongRows holds calls of all kinds against a plain list.
func TestLongRows(t *testing.T) {
	r := rand.New(rand.NewSource(1212))
	for _, row := range []struct {
		most  int
		ids   uint64
		times uint64
	}{{1, 3, 3}, {2, 3, 4}, {3, 6, 2}, {5, 5, 5}, {8, 12, 100}, {20, 25, 10}, {40, 1000, 1000}, {100, 150, 50}, {300, 400, 1}, {1000, 500, 10000}} {
		x := fresh(row.most)
		for range 20000 {
			some(t, r, x, r.Uint64()%row.ids, r.Uint64()%row.times, row.times)
		}
		x.end(t, "a long row")
	}
}

// some does some call on a pair: now and then all goes.
func some(t *testing.T, r *rand.Rand, x pair, id, at, times uint64) {
	t.Helper()
	switch k := r.Intn(100); {
	case k < 60:
		x.put(t, "of a row", id, at)
	case k < 80:
		x.drop(t, "of a row", id)
	case k < 85 && len(x.p.l) > 0:
		x.drop(t, "one that is there, of a row", x.p.l[r.Intn(len(x.p.l))].id)
	case k < 90 && len(x.p.l) > 0:
		x.put(t, "one that is there, of a row", x.p.l[r.Intn(len(x.p.l))].id, at)
	case k < 99:
		x.due(t, "of a row", at*at/times/4)
	case r.Intn(20) == 0:
		x.end(t, "of a row")
	}
}

// TestLongRowsOfGreatNumbers: with ids and times that are the edges.
func TestLongRowsOfGreatNumbers(t *testing.T) {
	r := rand.New(rand.NewSource(64))
	x := fresh(7)
	l := samples.Numbers()
	for range 20000 {
		id, at := l[r.Intn(len(l))], l[r.Intn(len(l))]
		switch k := r.Intn(10); {
		case k < 6:
			x.put(t, "of a row", id, at)
		case k < 8:
			x.drop(t, "of a row", id)
		default:
			x.due(t, "of a row", at/2)
		}
	}
	x.end(t, "a long row")
}

// TestAllShortRows: each row of a few calls, of few ids and times.
func TestAllShortRows(t *testing.T) {
	calls := []func(x pair){
		func(x pair) { x.put(t, "a short row", 1, 1) },
		func(x pair) { x.put(t, "a short row", 1, 2) },
		func(x pair) { x.put(t, "a short row", 2, 1) },
		func(x pair) { x.put(t, "a short row", 2, 2) },
		func(x pair) { x.put(t, "a short row", 3, 1) },
		func(x pair) { x.drop(t, "a short row", 1) },
		func(x pair) { x.drop(t, "a short row", 2) },
		func(x pair) { x.due(t, "a short row", 1) },
	}
	samples.Texts("\x00\x01\x02\x03\x04\x05\x06\x07", 5, func(row string) {
		for most := 1; most <= 3; most++ {
			x := fresh(most)
			for i := range len(row) {
				calls[row[i]](x)
			}
			x.end(t, "a short row")
		}
	})
}

// TestTwoBesideEachOther: neither changes the other one.
func TestTwoBesideEachOther(t *testing.T) {
	r := rand.New(rand.NewSource(2))
	one, other := fresh(10), fresh(20)
	for range 5000 {
		some(t, r, one, r.Uint64()%20, r.Uint64()%30, 30)
		other.same(t, "the other one")
		some(t, r, other, r.Uint64()%20, r.Uint64()%30, 30)
		one.same(t, "the other one")
	}
	one.end(t, "one")
	other.end(t, "the other one")
}

func TestTwoOfTheSameNumbers(t *testing.T) {
	one, other := New(2), New(2)
	puts(t, "one", one, 7, 20, api.OK)
	drops(t, "in the other one", other, 7, false)
	puts(t, "the other one", other, 7, 10, api.OK)
	first(t, "one", one, 20, true)
	first(t, "the other one", other, 10, true)
	drops(t, "one", one, 7, true)
	has(t, "the other one", other, 1)
	dues(t, "one", one, last)
	dues(t, "the other one", other, 10, 7)
}

// R4: what Due answers is new memory.

func TestDueAnswersNewMemory(t *testing.T) {
	x := filled(t, 8, several()...)
	early := x.a.Due(10)
	x.p.due(10)
	want := slices.Clone(early)
	overwrite(early)
	late := x.a.Due(30)
	x.p.due(30)
	overwrite(late)
	x.same(t, "what was due is overwritten")
	x.put(t, "behind that", 5, 35)
	if !slices.Equal(want, []uint64{5, 9}) || early[0] != 1<<40 {
		t.Errorf("a later Due writes into what an earlier one answered: %v, %v", want, early)
	}
	x.end(t, "what was due is overwritten")
	a, b := New(3), New(3)
	for _, l := range []*Alarms{a, b} {
		puts(t, "one", l, 1, 1, api.OK)
		puts(t, "two", l, 2, 2, api.OK)
	}
	one, other := a.Due(5), b.Due(5)
	if unsafe.SliceData(one) == unsafe.SliceData(other) {
		t.Error("two answers share memory")
	}
	overwrite(one)
	if !slices.Equal(other, []uint64{1, 2}) {
		t.Errorf("writing into one answer makes another one %v", other)
	}
}

// overwrite writes into a list, and into the room behind it.
func overwrite(l []uint64) {
	l = l[:cap(l)]
	for i := range l {
		l[i] = 1 << 40
	}
}

// R5: the same calls are answered the same.

func TestOneAnswer(t *testing.T) {
	r := rand.New(rand.NewSource(5))
	one, other := New(50), New(50)
	for range 5000 {
		id, at := r.Uint64()%100, r.Uint64()%20
		if a, b := one.Put(id, at), other.Put(id, at); a != b {
			t.Fatalf("Put(%d, %d) = %d, %d", id, at, a, b)
		}
		if r.Intn(10) == 0 {
			if a, b := one.Due(at/2), other.Due(at/2); !slices.Equal(a, b) {
				t.Fatalf("Due(%d) = %v, %v", at/2, a, b)
			}
		}
	}
	if a, b := one.Due(last), other.Due(last); !slices.Equal(a, b) {
		t.Errorf("all are %v, %v", a, b)
	}
}

// R7: a copy of Alarms goes its own way.

// copied is a copy of a pair.
func copied(x pair) pair {
	a := *x.a
	return pair{&a, &plain{x.p.most, slices.Clone(x.p.l)}}
}

func TestCopiesGoTheirOwnWays(t *testing.T) {
	x := filled(t, 8, several()[:6]...)
	still, early := copied(x), copied(x)
	x.drop(t, "of the original", 9)
	x.put(t, "of the original", 3, 5)
	x.put(t, "of the original", 1000, 15)
	early.same(t, "the original has changed")
	early.due(t, "the copy", 19)
	x.same(t, "the copy has changed")
	late := copied(x)
	x.due(t, "of the original", 25)
	late.put(t, "of the late copy", 7, 1)
	again := copied(late)
	late.drop(t, "of the late copy", 1000)
	for _, one := range []pair{again, x, early, late, still} {
		one.same(t, "each of them")
	}
	for _, one := range []pair{late, early, still, x, again} {
		one.end(t, "each of them")
	}
}

// TestAlarmsThatAreLaidBack: made again what they were, they have nothing of what they had meanwhile.
func TestAlarmsThatAreLaidBack(t *testing.T) {
	x := filled(t, 8, several()[:6]...)
	early := copied(x)
	x.due(t, "meanwhile", 20)
	x.put(t, "meanwhile", 77, 7)
	late := copied(x)
	*x.a = *early.a
	x.p.l = slices.Clone(early.p.l)
	x.same(t, "laid back")
	x.drop(t, "behind that", 3)
	late.same(t, "the late copy")
	early.same(t, "the early copy")
	x.end(t, "laid back")
	late.end(t, "the late copy")
	early.end(t, "the early copy")
}

// TestManyCopies holds copies of copies against plain lists, each of which something is done with now and then.
func TestManyCopies(t *testing.T) {
	r := rand.New(rand.NewSource(77))
	l := []pair{fresh(12)}
	for range 20000 {
		i := r.Intn(len(l))
		some(t, r, l[i], r.Uint64()%16, r.Uint64()%30, 30)
		switch r.Intn(20) {
		case 0:
			l = append(l, copied(l[r.Intn(len(l))]))
		case 1:
			*l[i].a = *l[0].a
			l[i].p.l = slices.Clone(l[0].p.l)
		}
		if len(l) > 10 {
			place := r.Intn(len(l))
			l[place].end(t, "one of many copies")
			l = slices.Delete(l, place, place+1)
		}
	}
	for _, x := range l {
		x.end(t, "one of many copies")
	}
}
