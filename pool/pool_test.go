package pool

import (
	"fmt"
	"math"
	"math/rand"
	"slices"
	"strings"
	"testing"
	"unsafe"

	"sough/api"
	"sough/samples"
	"sough/split"
)

// last is the last time that there is.
const last = math.MaxUint64

// plain is a list of messages, in the order in which they began: by the promises' words what a Pool tells.
type plain struct {
	slots, bytes int
	l            []message
}

// message is one that is not whole.
type message struct {
	id    uint64
	count int
	since uint64
	parts []split.Frag
}

func (p *plain) add(f split.Frag, now uint64) (string, bool, api.Errno) {
	if !split.Right(f) {
		return "", false, api.ErrArg
	}
	p.expire(now)
	if f.Count == 1 {
		return f.Part, true, api.OK
	}
	place := slices.IndexFunc(p.l, func(m message) bool { return m.id == f.ID })
	held, bytes := p.held()
	if place < 0 {
		if held == p.slots || bytes+len(f.Part) > p.bytes {
			return "", false, api.ErrFull
		}
		p.l = append(p.l, message{f.ID, f.Count, now, []split.Frag{f}})
		return "", false, api.OK
	}
	m := p.l[place]
	if m.count != f.Count {
		return "", false, api.ErrForm
	}
	if slices.ContainsFunc(m.parts, func(g split.Frag) bool { return g.Index == f.Index }) {
		return "", false, api.ErrTwice
	}
	if bytes+len(f.Part) > p.bytes {
		return "", false, api.ErrFull
	}
	m.parts = append(slices.Clip(m.parts), f)
	p.l[place] = m
	if len(m.parts) < m.count {
		return "", false, api.OK
	}
	p.l = slices.Delete(p.l, place, place+1)
	return whole(m.parts)
}

// whole is the message that all its parts make.
func whole(parts []split.Frag) (string, bool, api.Errno) {
	s := ""
	for index := range parts {
		for _, f := range parts {
			if f.Index == index {
				s += f.Part
			}
		}
	}
	if len(s) > 4096 {
		return "", false, api.ErrBig
	}
	return s, true, api.OK
}

func (p *plain) expire(now uint64) int {
	before := len(p.l)
	p.l = slices.DeleteFunc(p.l, func(m message) bool { return m.since < math.MaxUint64-50 && m.since+51 <= now })
	return before - len(p.l)
}

func (p *plain) held() (int, int) {
	bytes := 0
	for _, m := range p.l {
		for _, f := range m.parts {
			bytes += len(f.Part)
		}
	}
	return len(p.l), bytes
}

// pair is a Pool, and a plain list, to which the same is done.
type pair struct {
	a *Pool
	p *plain
}

// fresh is a pair that holds nothing, with room for so many messages, and so many bytes.
func fresh(slots, bytes int) pair {
	a, err := New(slots, bytes)
	if err != api.OK {
		panic("no pool may be so")
	}
	return pair{a, &plain{slots: slots, bytes: bytes}}
}

// roomy is a pair with all the room that there may be.
func roomy() pair { return fresh(16, 65536) }

// filled is a pair to which these parts were added at a time.
func filled(t *testing.T, x pair, now uint64, l ...split.Frag) pair {
	t.Helper()
	for _, f := range l {
		x.add(t, "some part", f, now)
	}
	return x
}

// add looks what Add tells.
func (x pair) add(t *testing.T, why string, f split.Frag, now uint64) {
	t.Helper()
	want, wantIs, wantErr := x.p.add(f, now)
	x.sameAdd(t, why, f, now, want, wantIs, wantErr)
}

// adds looks what Add tells, and whether that is this.
func (x pair) adds(t *testing.T, why string, f split.Frag, now uint64, want string, wantIs bool, wantErr api.Errno) {
	t.Helper()
	if s, is, err := x.p.add(f, now); s != want || is != wantIs || err != wantErr {
		t.Errorf("%s: the plain list tells of %s at %d %.20q, %t, %d, not %.20q, %t, %d", why, short(f), now, s, is, err, want, wantIs, wantErr)
	}
	x.sameAdd(t, why, f, now, want, wantIs, wantErr)
}

func (x pair) sameAdd(t *testing.T, why string, f split.Frag, now uint64, want string, wantIs bool, wantErr api.Errno) {
	t.Helper()
	if s, is, err := x.a.Add(f, now); s != want || is != wantIs || err != wantErr {
		t.Errorf("%s: Add(%s, %d) = %d bytes %.20q, %t, %d, not %d bytes %.20q, %t, %d", why, short(f), now, len(s), s, is, err, len(want), want, wantIs, wantErr)
	}
	x.same(t, why)
}

// keeps looks whether a part is held, and ends no message.
func (x pair) keeps(t *testing.T, why string, f split.Frag, now uint64) {
	t.Helper()
	x.adds(t, why, f, now, "", false, api.OK)
}

// ends looks whether a part ends a message.
func (x pair) ends(t *testing.T, why string, f split.Frag, now uint64, want string) {
	t.Helper()
	x.adds(t, why, f, now, want, true, api.OK)
}

// refuses looks whether a part is refused, with nothing beside the error.
func (x pair) refuses(t *testing.T, why string, f split.Frag, now uint64, want api.Errno) {
	t.Helper()
	x.adds(t, why, f, now, "", false, want)
}

// expire looks what Expire tells.
func (x pair) expire(t *testing.T, why string, now uint64) {
	t.Helper()
	x.expires(t, why, now, x.p.expire(now))
}

// forgets looks what Expire tells, and whether that is so many.
func (x pair) forgets(t *testing.T, why string, now uint64, want int) {
	t.Helper()
	if got := x.p.expire(now); got != want {
		t.Errorf("%s: the plain list forgets %d at %d, not %d", why, got, now, want)
	}
	x.expires(t, why, now, want)
}

func (x pair) expires(t *testing.T, why string, now uint64, want int) {
	t.Helper()
	if got := x.a.Expire(now); got != want {
		t.Errorf("%s: Expire(%d) = %d, not %d", why, now, got, want)
	}
	x.same(t, why)
}

// same looks what Held tells, asked once and again, and whether that is no more than there is room for.
func (x pair) same(t *testing.T, why string) {
	t.Helper()
	for range 2 {
		wantCount, wantBytes := x.p.held()
		if count, bytes := x.a.Held(); count != wantCount || bytes != wantBytes {
			t.Errorf("%s: Held() = %d, %d, not %d, %d", why, count, bytes, wantCount, wantBytes)
		}
		if count, bytes := x.a.Held(); count > x.p.slots || bytes > x.p.bytes {
			t.Errorf("%s: Held() = %d, %d, of room for %d, %d", why, count, bytes, x.p.slots, x.p.bytes)
		}
	}
}

// has looks whether so many messages are held, of so many bytes.
func (x pair) has(t *testing.T, why string, wantCount, wantBytes int) {
	t.Helper()
	if count, bytes := x.a.Held(); count != wantCount || bytes != wantBytes {
		t.Errorf("%s: Held() = %d, %d, not %d, %d", why, count, bytes, wantCount, wantBytes)
	}
}

// end adds to copies of the pair, of one message after the other, the parts that lack, so far as there is room; then it looks when each of them is too old, and changes nothing.
func (x pair) end(t *testing.T, why string) {
	t.Helper()
	for _, m := range x.p.l {
		y := copied(x)
		for index := range m.count {
			y.add(t, why+", at the end", split.Frag{ID: m.id, Index: index, Count: m.count, Part: "z"}, m.since)
		}
		for _, now := range []uint64{m.since + 49, m.since + 50, m.since + 51, m.since + 52} {
			copied(x).expire(t, why+", at the end", now)
		}
	}
	x.same(t, why)
}

// copied is a copy of a pair.
func copied(x pair) pair {
	a := *x.a
	return pair{&a, &plain{x.p.slots, x.p.bytes, slices.Clone(x.p.l)}}
}

// short tells a part in few bytes.
func short(f split.Frag) string {
	return fmt.Sprintf("{%d, %d of %d, %d bytes: %.20x}", f.ID, f.Index, f.Count, len(f.Part), f.Part)
}

// parts are those of a message, of so many bytes each.
func parts(s string, id uint64, size int) []split.Frag {
	l, err := split.Cut(s, id, size)
	if err != api.OK {
		panic("no message may be cut so")
	}
	return l
}

// part is one of a message, of so many bytes.
func part(id uint64, index, count, size int) split.Frag {
	return split.Frag{ID: id, Index: index, Count: count, Part: samples.OfSize(size)}
}

// wrong are parts that may not be, each for one fault alone, of messages of which parts are held, and of others.
func wrong() []split.Frag {
	var l []split.Frag
	for _, id := range append(samples.Above32(), 0, 1<<32+7) {
		l = append(l, split.Frag{ID: id, Index: 1, Count: 2, Part: "b"}, split.Frag{ID: id, Index: 0, Count: 1, Part: "b"})
	}
	for _, id := range []uint64{7, 8} {
		for _, count := range []int{0, -1, -2, 17, 18, 256, 258, 1<<32 + 2, math.MinInt, math.MaxInt} {
			l = append(l, split.Frag{ID: id, Index: 1, Count: count, Part: "b"}, split.Frag{ID: id, Index: 0, Count: count, Part: "b"})
		}
		for _, index := range []int{-1, -2, 2, 3, 16, 256, 257, 1<<32 + 1, math.MinInt, math.MaxInt} {
			l = append(l, split.Frag{ID: id, Index: index, Count: 2, Part: "b"})
		}
		l = append(l, split.Frag{ID: id, Index: 1, Count: 1, Part: "b"}, split.Frag{ID: id, Index: -1, Count: 1, Part: "b"}, split.Frag{ID: id, Index: 16, Count: 16, Part: "b"})
		for _, size := range []int{0, 1001, 4096} {
			l = append(l, part(id, 1, 2, size), part(id, 0, 1, size))
		}
	}
	return append(l, split.Frag{})
}

// times are some at which a first part may come, with all edges.
func times() []uint64 {
	return append(samples.Numbers(), 49, 50, 51, 52, 1000, 1<<63-51, 1<<63-50, last-103, last-102, last-101, last-100, last-53, last-52, last-51, last-50, last-49)
}

func TestExamplesOfTheChapter(t *testing.T) {
	a, err := New(4, 4096)
	if err != api.OK {
		t.Fatalf("New = %d", err)
	}
	l := parts("abcde", 7, 3)
	if s, is, err := a.Add(l[1], 0); s != "" || is || err != api.OK {
		t.Errorf("the part 2: %q, %t, %d", s, is, err)
	}
	if s, is, err := a.Add(l[0], 0); s != "abcde" || !is || err != api.OK {
		t.Errorf("the part 1: %q, %t, %d", s, is, err)
	}
}

// P13.1

func TestNewOfManyRooms(t *testing.T) {
	for _, slots := range []int{math.MinInt, -1 << 32, -16, -1, 0, 1, 2, 3, 15, 16, 17, 18, 256, 257, 1<<32 + 1, math.MaxInt} {
		for _, bytes := range []int{math.MinInt, -1 << 32, -65536, -1, 0, 1, 2, 1000, 4096, 65535, 65536, 65537, 65538, 131072, 1<<32 + 1, math.MaxInt} {
			a, err := New(slots, bytes)
			if slots < 1 || slots > 16 || bytes < 1 || bytes > 65536 {
				if a != nil || err != api.ErrArg {
					t.Errorf("New(%d, %d) = %v, %d", slots, bytes, a, err)
				}
				continue
			}
			if a == nil || err != api.OK {
				t.Errorf("New(%d, %d) = %v, %d", slots, bytes, a, err)
				continue
			}
			if count, has := a.Held(); count != 0 || has != 0 {
				t.Errorf("a pool of room for %d, %d: Held() = %d, %d", slots, bytes, count, has)
			}
		}
	}
}

// TestNewWithRoomForSoMany: as many messages as there is room for can be begun, and not one more.
func TestNewWithRoomForSoMany(t *testing.T) {
	for slots := 1; slots <= 16; slots++ {
		x := fresh(slots, 65536)
		for i := range slots {
			x.keeps(t, "there is room", part(uint64(i)+1, i, 16, 1000), 5)
			x.has(t, "there is room", i+1, 1000*(i+1))
		}
		for id := uint64(slots) + 1; id < 20; id++ {
			x.refuses(t, "there is no room", part(id, 0, 2, 1), 5, api.ErrFull)
		}
		x.end(t, "as many as there is room for")
	}
}

// TestNewWithRoomForSoManyBytes: as many as there is room for can be held, and not one more.
func TestNewWithRoomForSoManyBytes(t *testing.T) {
	for _, bytes := range []int{1, 2, 3, 255, 256, 257, 999, 1000, 1001, 4095, 4096, 4097, 10000, 65535, 65536} {
		x := fresh(16, bytes)
		left := bytes
		for i := 0; left > 0; i++ {
			size := min(left, 1000)
			x.keeps(t, "there is room", part(uint64(i/15)+1, i%15, 16, size), 5)
			left -= size
			x.has(t, "there is room", i/15+1, bytes-left)
		}
		x.refuses(t, "there is no room", part(1, 15, 16, 1), 5, api.ErrFull)
		x.refuses(t, "there is no room", part(9, 0, 2, 1), 5, api.ErrFull)
		x.end(t, "as many bytes as there is room for")
	}
}

func TestHeldOfNothing(t *testing.T) {
	for _, x := range []pair{fresh(1, 1), fresh(4, 4096), roomy()} {
		x.has(t, "nothing yet", 0, 0)
		for _, now := range times() {
			x.forgets(t, "nothing yet", now, 0)
		}
		x.ends(t, "a message of one part", part(3, 0, 1, 5), 10, samples.OfSize(5))
		x.refuses(t, "a part that may not be", part(3, 0, 0, 5), 10, api.ErrArg)
		x.has(t, "nothing still", 0, 0)
	}
}

func TestHeldBehindEachCall(t *testing.T) {
	x := fresh(2, 20)
	x.has(t, "nothing", 0, 0)
	x.keeps(t, "one", part(7, 1, 3, 4), 10)
	x.has(t, "one", 1, 4)
	x.keeps(t, "another part of it", part(7, 0, 3, 1), 20)
	x.has(t, "another part of it", 1, 5)
	x.refuses(t, "the same part", part(7, 0, 3, 2), 20, api.ErrTwice)
	x.has(t, "the same part", 1, 5)
	x.keeps(t, "another one", part(8, 1, 2, 10), 30)
	x.has(t, "another one", 2, 15)
	x.refuses(t, "a third one", part(9, 1, 2, 1), 30, api.ErrFull)
	x.has(t, "a third one", 2, 15)
	x.refuses(t, "a part of too many bytes", part(8, 0, 2, 6), 30, api.ErrFull)
	x.has(t, "a part of too many bytes", 2, 15)
	x.refuses(t, "one of another count", part(8, 0, 3, 1), 30, api.ErrForm)
	x.has(t, "one of another count", 2, 15)
	x.ends(t, "a message of one part", part(8, 0, 1, 1), 30, samples.OfSize(1))
	x.has(t, "a message of one part", 2, 15)
	x.ends(t, "the last part", part(7, 2, 3, 5), 30, samples.OfSize(1)+samples.OfSize(4)+samples.OfSize(5))
	x.has(t, "the last part", 1, 10)
	x.forgets(t, "not too old", 80, 0)
	x.has(t, "not too old", 1, 10)
	x.forgets(t, "too old", 81, 1)
	x.has(t, "too old", 0, 0)
}

// TestExpireAtTheEdge: a message is kept at the tick at which it is 50 ticks old, and forgotten at the next one.
func TestExpireAtTheEdge(t *testing.T) {
	for _, since := range times() {
		for _, ticks := range []uint64{0, 1, 2, 49, 50, 51, 52, 100, 1000, 1 << 31, 1 << 32, 1 << 63, last} {
			now := since + ticks
			if now < since {
				continue
			}
			x := filled(t, roomy(), since, part(7, 1, 3, 4))
			want := 0
			if ticks > 50 {
				want = 1
			}
			x.forgets(t, "some ticks old", now, want)
			x.has(t, "some ticks old", 1-want, 4-4*want)
			x.forgets(t, "once more", now, 0)
			x.end(t, "some ticks old")
		}
	}
}

// TestExpireAtLastTimes: behind the last time there is none, so what came less than 51 ticks ahead of it is never too old.
func TestExpireAtLastTimes(t *testing.T) {
	for ticks := range uint64(60) {
		x := filled(t, roomy(), last-ticks, part(7, 1, 3, 4))
		want := 0
		if ticks > 50 {
			want = 1
		}
		for _, now := range []uint64{0, 1, 50, 51, last - 51 - ticks, last - ticks} {
			x.forgets(t, "not behind it", now, 0)
		}
		x.forgets(t, "at the last time", last, want)
		x.forgets(t, "once more", last, 0)
	}
}

// TestExpireAheadOfTheFirstPart: a time that is ahead of the one at which the first part came is not behind it, however far.
func TestExpireAheadOfTheFirstPart(t *testing.T) {
	for _, since := range times() {
		for _, now := range times() {
			if now <= since {
				x := filled(t, roomy(), since, part(7, 1, 3, 4))
				x.forgets(t, "ahead of it", now, 0)
				x.has(t, "ahead of it", 1, 4)
			}
		}
	}
}

// TestExpireOfSeveral: those that are too old alone are forgotten, in whatever order they came.
func TestExpireOfSeveral(t *testing.T) {
	since := []uint64{101, 102, 110, 110, 150, 151}
	samples.Orders([]int{0, 1, 2, 3, 4, 5}, func(order []int) {
		x := roomy()
		for _, i := range order {
			x.keeps(t, "one of several", part(uint64(i)+1, i, 7, 10*(i+1)), since[i])
		}
		y := copied(x)
		for _, step := range []struct {
			now         uint64
			want, count int
		}{{0, 0, 6}, {151, 0, 6}, {152, 1, 5}, {152, 0, 5}, {153, 1, 4}, {160, 0, 4}, {161, 2, 2}, {200, 0, 2}, {201, 1, 1}, {202, 1, 0}, {last, 0, 0}} {
			x.forgets(t, "several", step.now, step.want)
			if count, _ := x.a.Held(); count != step.count {
				t.Errorf("several: at %d are %d held, not %d", step.now, count, step.count)
			}
		}
		y.forgets(t, "some of several", 161, 4)
		y.has(t, "some of several", 2, 50+60)
		y.forgets(t, "some of several", 10, 0)
		y.end(t, "some of several")
	})
}

func TestExpireOfAllThatThereMayBe(t *testing.T) {
	x := roomy()
	for i := range 16 {
		for index := range 15 {
			x.keeps(t, "one of very many", part(uint64(i)+1, index, 16, 1+(i+index)%200), uint64(i))
		}
	}
	for now := uint64(40); now < 70; now++ {
		want := 0
		if now >= 51 && now < 67 {
			want = 1
		}
		x.forgets(t, "one after the other", now, want)
	}
	x.has(t, "all are too old", 0, 0)
}

// P13.2

// TestAddOfWrongParts: nothing changes, not even what is too old.
func TestAddOfWrongParts(t *testing.T) {
	for _, f := range wrong() {
		for _, x := range []pair{roomy(), fresh(1, 1), fresh(2, 2)} {
			x.refuses(t, "of a pool that holds nothing", f, 10, api.ErrArg)
			x.keeps(t, "the first part", split.Frag{ID: 7, Index: 0, Count: 2, Part: "a"}, 10)
			for _, now := range []uint64{0, 9, 10, 60, 61, 1000, last} {
				x.refuses(t, "of a pool that holds a message", f, now, api.ErrArg)
				x.has(t, "of a pool that holds a message", 1, 1)
			}
			x.end(t, "wrong parts came")
			y := copied(x)
			y.forgets(t, "it is too old, and was not forgotten", 61, 1)
			if x.p.bytes > 1 {
				x.ends(t, "it is not too old", split.Frag{ID: 7, Index: 1, Count: 2, Part: "b"}, 60, "ab")
			}
		}
	}
}

// TestAddOfOnePart: it is a message, whether there is room or not, and whatever is held stays.
func TestAddOfOnePart(t *testing.T) {
	held := []split.Frag{part(7, 0, 3, 2), part(7, 2, 3, 1), part(8, 1, 2, 3)}
	for _, x := range []pair{roomy(), fresh(2, 6), fresh(2, 1000), fresh(16, 6)} {
		for _, id := range []uint64{1, 6, 7, 8, 9, 1 << 32} {
			for _, size := range []int{1, 2, 256, 999, 1000} {
				y := copied(x)
				y.ends(t, "with nothing held", part(id, 0, 1, size), 10, samples.OfSize(size))
				y.has(t, "with nothing held", 0, 0)
				y = filled(t, y, 10, held...)
				for _, now := range []uint64{0, 10, 60} {
					y.ends(t, "with others held", part(id, 0, 1, size), now, samples.OfSize(size))
					y.has(t, "with others held", 2, 6)
				}
				y.end(t, "one part came")
				y.ends(t, "with what is too old", part(id, 0, 1, size), 61, samples.OfSize(size))
				y.has(t, "with what is too old", 0, 0)
			}
		}
	}
	x := filled(t, fresh(1, 1), 10, part(7, 0, 2, 1))
	x.ends(t, "of whatever bytes", split.Frag{ID: 7, Index: 0, Count: 1, Part: samples.EachByte()}, 10, samples.EachByte())
	x.ends(t, "once more", split.Frag{ID: 7, Index: 0, Count: 1, Part: samples.EachByte()}, 10, samples.EachByte())
	x.has(t, "one part came twice", 1, 1)
}

// TestPartsInOrder: of each count that there is, in order and in reverse.
func TestPartsInOrder(t *testing.T) {
	for count := 2; count <= 16; count++ {
		for _, size := range []int{1, 2, 17, 255, 256} {
			s := samples.OfSize(count*size - size/2)
			l := parts(s, 7, size)
			if len(l) != count {
				t.Fatalf("%d bytes are %d parts, not %d", len(s), len(l), count)
			}
			x, y := roomy(), roomy()
			for i := range count - 1 {
				x.keeps(t, "in order", l[i], 10)
				x.has(t, "in order", 1, size*(i+1))
				y.keeps(t, "in reverse", l[count-1-i], 10)
			}
			x.ends(t, "in order", l[count-1], 10, s)
			x.has(t, "in order", 0, 0)
			y.ends(t, "in reverse", l[0], 10, s)
			y.has(t, "in reverse", 0, 0)
		}
	}
}

// TestPartsInEveryOrder: no message is told ahead of the last one; then its bytes, in order.
func TestPartsInEveryOrder(t *testing.T) {
	for count := 2; count <= 6; count++ {
		s := samples.OfSize(count*3 - 1)
		samples.Orders(parts(s, 300, 3), func(l []split.Frag) {
			x := fresh(1, 3*count)
			for i, f := range l[:count-1] {
				x.keeps(t, "in some order", f, uint64(i))
			}
			x.ends(t, "in some order", l[count-1], uint64(count), s)
			x.has(t, "in some order", 0, 0)
		})
	}
}

// TestPartsOfManyInSomeOrder: 16 parts, of unlike sizes.
func TestPartsOfManyInSomeOrder(t *testing.T) {
	r := rand.New(rand.NewSource(16))
	for range 500 {
		s := ""
		var l []split.Frag
		for index := range 16 {
			f := split.Frag{ID: 1 << 32, Index: index, Count: 16, Part: samples.OfSize(300)[index : index+1+r.Intn(250)]}
			s += f.Part
			l = append(l, f)
		}
		r.Shuffle(16, func(i, j int) { l[i], l[j] = l[j], l[i] })
		x := roomy()
		for i, f := range l[:15] {
			x.keeps(t, "in some order", f, uint64(r.Intn(51)))
			if count, _ := x.a.Held(); count != 1 {
				t.Fatalf("behind %d parts of one message %d are held", i+1, count)
			}
		}
		x.ends(t, "in some order", l[15], uint64(r.Intn(51)), s)
		x.has(t, "in some order", 0, 0)
	}
}

// TestSeveralMessagesInTurn: part by part, each one in an order of its own.
func TestSeveralMessagesInTurn(t *testing.T) {
	for slots := 2; slots <= 16; slots++ {
		x := fresh(slots, 65536)
		var texts []string
		var l [][]split.Frag
		for i := range slots {
			s := strings.Repeat(string(rune('a'+i)), 5) + samples.OfSize(60+i)
			texts = append(texts, s)
			l = append(l, parts(s, uint64(i)*uint64(i)+1, 10))
			if i%2 == 1 {
				slices.Reverse(l[i])
			}
		}
		most := len(l[slots-1])
		for place := range most {
			for i := range slots {
				switch n := len(l[i]); {
				case place < n-1:
					x.keeps(t, "in turn", l[i][place], uint64(place))
				case place == n-1:
					x.ends(t, "in turn", l[i][place], uint64(place), texts[i])
				}
			}
		}
		x.has(t, "in turn", 0, 0)
	}
}

// TestAddTellsFirstError: another count, a part that came, and no room, each alone and together.
func TestAddTellsFirstError(t *testing.T) {
	held := []split.Frag{part(7, 0, 3, 4), part(7, 1, 3, 4), part(8, 1, 2, 4)}
	for _, x := range []struct {
		why          string
		slots, bytes int
		f            split.Frag
		want         api.Errno
	}{
		{"a greater count", 16, 65536, part(7, 2, 4, 1), api.ErrForm},
		{"a smaller count", 16, 65536, part(8, 0, 3, 1), api.ErrForm},
		{"a smaller count, an index as great", 16, 65536, part(7, 1, 2, 1), api.ErrForm},
		{"the greatest count", 16, 65536, part(7, 15, 16, 1), api.ErrForm},
		{"another count, of a part that came", 16, 65536, part(7, 0, 4, 4), api.ErrForm},
		{"another count, of a part that came with these bytes", 16, 65536, part(8, 1, 3, 4), api.ErrForm},
		{"another count, no room for its bytes", 16, 12, part(7, 2, 4, 1), api.ErrForm},
		{"another count, no slot", 2, 65536, part(7, 2, 4, 1), api.ErrForm},
		{"another count, neither room nor slot", 2, 12, part(7, 2, 4, 1000), api.ErrForm},
		{"all three", 2, 12, part(7, 1, 4, 1000), api.ErrForm},
		{"a part that came", 16, 65536, part(7, 1, 3, 4), api.ErrTwice},
		{"a part that came, with fewer bytes", 16, 65536, part(7, 1, 3, 1), api.ErrTwice},
		{"a part that came, with more bytes", 16, 65536, part(7, 0, 3, 1000), api.ErrTwice},
		{"the other one's part that came", 16, 65536, part(8, 1, 2, 9), api.ErrTwice},
		{"a part that came, no room for its bytes", 16, 12, part(7, 1, 3, 4), api.ErrTwice},
		{"a part that came, no slot", 2, 65536, part(7, 1, 3, 4), api.ErrTwice},
		{"a part that came, neither room nor slot", 2, 12, part(8, 1, 2, 1000), api.ErrTwice},
		{"no room for its bytes", 16, 12, part(7, 2, 3, 1), api.ErrFull},
		{"no room for its bytes, by one", 16, 20, part(7, 2, 3, 9), api.ErrFull},
		{"no room for its bytes, and no slot", 2, 12, part(8, 0, 2, 1), api.ErrFull},
		{"another message, no room for its bytes", 16, 12, part(9, 0, 2, 1), api.ErrFull},
		{"another message, no room for its bytes, by one", 16, 20, part(9, 0, 2, 9), api.ErrFull},
		{"another message, no slot", 2, 65536, part(9, 0, 2, 1), api.ErrFull},
		{"another message, neither room nor slot", 2, 12, part(9, 0, 2, 1), api.ErrFull},
	} {
		y := filled(t, fresh(x.slots, x.bytes), 10, held...)
		for _, now := range []uint64{0, 10, 60} {
			y.refuses(t, x.why, x.f, now, x.want)
			y.has(t, x.why, 2, 12)
		}
		y.end(t, x.why)
	}
}

// TestRefusedPartsLeaveTheMessage: the parts that came are told, not those that were refused.
func TestRefusedPartsLeaveTheMessage(t *testing.T) {
	x := filled(t, fresh(2, 10), 10, split.Frag{ID: 7, Index: 0, Count: 3, Part: "ab"}, split.Frag{ID: 7, Index: 2, Count: 3, Part: "e"})
	x.refuses(t, "it came", split.Frag{ID: 7, Index: 0, Count: 3, Part: "xy"}, 10, api.ErrTwice)
	x.refuses(t, "it came", split.Frag{ID: 7, Index: 2, Count: 3, Part: "ab"}, 10, api.ErrTwice)
	x.refuses(t, "another count", split.Frag{ID: 7, Index: 1, Count: 2, Part: "xy"}, 10, api.ErrForm)
	x.refuses(t, "another count", split.Frag{ID: 7, Index: 3, Count: 4, Part: "xy"}, 10, api.ErrForm)
	x.refuses(t, "no room", split.Frag{ID: 7, Index: 1, Count: 3, Part: "12345678"}, 10, api.ErrFull)
	x.refuses(t, "no room", split.Frag{ID: 5, Index: 1, Count: 2, Part: "12345678"}, 10, api.ErrFull)
	x.refuses(t, "no part", split.Frag{ID: 7, Index: 1, Count: 3}, 10, api.ErrArg)
	x.ends(t, "another one, of one part", split.Frag{ID: 7, Index: 0, Count: 1, Part: "12345678"}, 10, "12345678")
	x.ends(t, "the part that lacks", split.Frag{ID: 7, Index: 1, Count: 3, Part: "cd"}, 10, "abcde")
	x.has(t, "the part that lacks", 0, 0)
}

// TestRoomForJustSoManyBytes: just as many as there is room for, and one more, of a message that is held, and of one that is not.
func TestRoomForJustSoManyBytes(t *testing.T) {
	for _, bytes := range []int{2, 3, 10, 256, 999, 1000, 1001, 1999, 2000} {
		for first := max(1, bytes-1000); first <= min(bytes-1, 1000); first += 1 + first/3 {
			left := bytes - first
			x := filled(t, fresh(16, bytes), 10, part(7, 1, 3, first))
			if left < 1000 {
				x.refuses(t, "one byte more", part(7, 0, 3, left+1), 10, api.ErrFull)
				x.refuses(t, "one byte more, of another one", part(8, 0, 3, left+1), 10, api.ErrFull)
			}
			y := copied(x)
			x.keeps(t, "just as many", part(7, 0, 3, left), 10)
			y.keeps(t, "just as many, of another one", part(8, 0, 3, left), 10)
			x.has(t, "just as many", 1, bytes)
			y.has(t, "just as many, of another one", 2, bytes)
			for _, z := range []pair{x, y} {
				z.refuses(t, "behind that", part(7, 2, 3, 1), 10, api.ErrFull)
				z.refuses(t, "behind that", part(9, 1, 2, 1), 10, api.ErrFull)
			}
		}
	}
}

// TestLastPartNeedsRoom: the part that would end a message, too.
func TestLastPartNeedsRoom(t *testing.T) {
	x := filled(t, fresh(3, 10), 10, part(7, 0, 2, 4), part(8, 0, 2, 3))
	x.refuses(t, "one byte more", part(7, 1, 2, 4), 10, api.ErrFull)
	x.refuses(t, "one byte more", part(8, 1, 2, 4), 10, api.ErrFull)
	x.ends(t, "just as many", part(7, 1, 2, 3), 10, samples.OfSize(4)+samples.OfSize(3))
	x.ends(t, "there is more room", part(8, 1, 2, 7), 10, samples.OfSize(3)+samples.OfSize(7))
	x.has(t, "both are told", 0, 0)
	x = fresh(1, 1)
	x.keeps(t, "of room for one byte", part(7, 0, 2, 1), 10)
	x.refuses(t, "of room for one byte", part(7, 1, 2, 1), 10, api.ErrFull)
	x.refuses(t, "of room for one byte", part(7, 1, 2, 1), 60, api.ErrFull)
	x.keeps(t, "it is too old", part(7, 1, 2, 1), 61)
	x.refuses(t, "so none is put together", part(7, 0, 2, 1), 61, api.ErrFull)
}

// TestMoreMessagesThanSlots: and a part of one that is held still fits, and what is told makes room.
func TestMoreMessagesThanSlots(t *testing.T) {
	for slots := 1; slots <= 16; slots++ {
		x := fresh(slots, 65536)
		for i := range slots {
			x.keeps(t, "there is a slot", part(uint64(i)+1, 0, 3, 5), 10)
		}
		x.refuses(t, "there is none", part(100, 0, 3, 5), 10, api.ErrFull)
		x.refuses(t, "there is none", part(100, 2, 3, 5), 60, api.ErrFull)
		for i := range slots {
			x.keeps(t, "of one that is held", part(uint64(i)+1, 2, 3, 5), 20)
			x.refuses(t, "there is none", part(100, 0, 3, 5), 20, api.ErrFull)
		}
		x.ends(t, "of one that is held", part(1, 1, 3, 1), 20, samples.OfSize(5)+samples.OfSize(1)+samples.OfSize(5))
		x.keeps(t, "there is one again", part(100, 0, 3, 5), 20)
		x.refuses(t, "there is none again", part(1, 1, 3, 1), 20, api.ErrFull)
		x.end(t, "more than there are slots")
	}
}

// TestMessagesOfManyBytes: 4096 together, and more.
func TestMessagesOfManyBytes(t *testing.T) {
	for _, x := range []struct {
		sizes []int
		want  api.Errno
	}{
		{[]int{1000, 1000, 1000, 1000, 96}, api.OK},
		{[]int{96, 1000, 1000, 1000, 1000}, api.OK},
		{[]int{1000, 1000, 1000, 1000, 97}, api.ErrBig},
		{[]int{97, 1000, 1000, 1000, 1000}, api.ErrBig},
		{[]int{1000, 1000, 1000, 1000, 95}, api.OK},
		{[]int{1000, 1000, 1000, 1000, 1000}, api.ErrBig},
		{[]int{256, 256, 256, 256, 256, 256, 256, 256, 256, 256, 256, 256, 256, 256, 256, 256}, api.OK},
		{[]int{256, 256, 256, 256, 256, 256, 256, 256, 256, 256, 256, 256, 256, 256, 256, 257}, api.ErrBig},
		{[]int{1000, 1000, 1000, 1000, 1000, 1000, 1000, 1000, 1000, 1000, 1000, 1000, 1000, 1000, 1000, 1000}, api.ErrBig},
		{[]int{1, 1, 1, 1, 1, 1, 1, 1, 1, 1, 85, 1000, 1000, 1000, 1, 1000}, api.OK},
		{[]int{1, 1, 1, 1, 1, 1, 1, 1, 1, 1, 86, 1000, 1000, 1000, 1, 1000}, api.ErrBig},
	} {
		n := len(x.sizes)
		for begin := range n {
			y := filled(t, roomy(), 10, part(8, 0, 2, 7))
			s, all := "", 0
			for _, size := range x.sizes {
				s += samples.OfSize(size)
				all += size
			}
			for i := range n - 1 {
				index := (begin + i) % n
				y.keeps(t, "of many bytes", part(7, index, n, x.sizes[index]), 10)
			}
			index := (begin + n - 1) % n
			y.has(t, "of many bytes", 2, 7+all-x.sizes[index])
			if x.want == api.OK {
				y.ends(t, "of as many as may be", part(7, index, n, x.sizes[index]), 10, s)
			} else {
				y.refuses(t, "of more than may be", part(7, index, n, x.sizes[index]), 10, x.want)
			}
			y.has(t, "it is forgotten", 1, 7)
			y.keeps(t, "once more", part(7, index, n, x.sizes[index]), 10)
			y.has(t, "once more", 2, 7+x.sizes[index])
			y.end(t, "of many bytes")
		}
	}
}

// TestNoRoomAheadOfTooManyBytes: where there is no room for more than may be, that is told first, and the message is kept.
func TestNoRoomAheadOfTooManyBytes(t *testing.T) {
	x := fresh(1, 4096)
	for index := range 4 {
		x.keeps(t, "of many bytes", part(7, index, 5, 1000), 10)
	}
	x.refuses(t, "no room", part(7, 4, 5, 97), 10, api.ErrFull)
	x.has(t, "no room", 1, 4000)
	x.ends(t, "room", part(7, 4, 5, 96), 10, strings.Repeat(samples.OfSize(1000), 4)+samples.OfSize(96))
	x = fresh(1, 4097)
	for index := range 4 {
		x.keeps(t, "of many bytes", part(7, index, 5, 1000), 10)
	}
	x.refuses(t, "no room", part(7, 4, 5, 98), 10, api.ErrFull)
	x.has(t, "no room", 1, 4000)
	x.refuses(t, "room, but too many", part(7, 4, 5, 97), 10, api.ErrBig)
	x.has(t, "room, but too many", 0, 0)
}

// TestLastPartTooLate: what was held is forgotten, and that part begins a new message.
func TestLastPartTooLate(t *testing.T) {
	l := parts("abcdefg", 7, 3)
	samples.Orders(l, func(l []split.Frag) {
		for _, since := range []uint64{0, 1, 10, 1 << 32, last - 200} {
			x := filled(t, roomy(), since, l[0], l[1])
			y := copied(x)
			x.ends(t, "just in time", l[2], since+50, "abcdefg")
			y.keeps(t, "too late", l[2], since+51)
			y.has(t, "too late", 1, len(l[2].Part))
			y.keeps(t, "once more", l[0], since+52)
			y.ends(t, "once more", l[1], since+101, "abcdefg")
			y.has(t, "once more", 0, 0)
		}
	})
}

// TestTooLateOfAnotherCount: what was held is no more, so neither its count counts, nor its parts, nor its bytes.
func TestTooLateOfAnotherCount(t *testing.T) {
	for _, f := range []split.Frag{part(7, 1, 4, 2), part(7, 0, 2, 2), part(7, 0, 3, 2), part(7, 1, 3, 5), part(8, 0, 2, 5), part(7, 15, 16, 4)} {
		x := filled(t, fresh(1, 5), 10, part(7, 0, 3, 2), part(7, 1, 3, 1))
		x.keeps(t, "behind what is too old", f, 61)
		x.has(t, "behind what is too old", 1, len(f.Part))
		x.end(t, "behind what is too old")
	}
}

// TestAgeIsToldFromTheFirstPart: whatever comes later.
func TestAgeIsToldFromTheFirstPart(t *testing.T) {
	for _, since := range []uint64{0, 10, 1 << 32, last - 60} {
		x := filled(t, fresh(2, 65536), since, part(7, 3, 16, 5))
		for index := range 3 {
			x.keeps(t, "a part", part(7, index, 16, 5), since+uint64(index)*20+10)
		}
		x.refuses(t, "a part that came", part(7, 3, 16, 5), since+50, api.ErrTwice)
		x.refuses(t, "another count", part(7, 3, 15, 5), since+50, api.ErrForm)
		x.ends(t, "one part", part(7, 0, 1, 5), since+50, samples.OfSize(5))
		x.has(t, "50 ticks behind the first one", 1, 20)
		x.forgets(t, "50 ticks behind the first one", since+50, 0)
		x.forgets(t, "51 ticks behind the first one", since+51, 1)
	}
}

// TestAddForgets: what is too old, whatever it tells but ErrArg.
func TestAddForgets(t *testing.T) {
	for _, x := range []struct {
		why   string
		f     split.Frag
		want  api.Errno
		count int
		bytes int
	}{
		{"another part", part(8, 2, 4, 1), api.OK, 1, 6},
		{"another message", part(9, 0, 2, 1), api.OK, 2, 6},
		{"another count", part(8, 2, 3, 1), api.ErrForm, 1, 5},
		{"a part that came", part(8, 0, 4, 1), api.ErrTwice, 1, 5},
		{"no room", part(8, 2, 4, 6), api.ErrFull, 1, 5},
		{"no room, of another message", part(9, 1, 3, 6), api.ErrFull, 1, 5},
		{"no room, of the one that is too old", part(7, 1, 3, 6), api.ErrFull, 1, 5},
		{"the one that is too old", part(7, 1, 3, 5), api.OK, 2, 10},
		{"a part that may not be", part(8, 4, 4, 1), api.ErrArg, 2, 9},
	} {
		y := filled(t, fresh(2, 10), 10, part(7, 0, 3, 4))
		y = filled(t, y, 30, part(8, 0, 4, 4), part(8, 1, 4, 1))
		y.adds(t, x.why, x.f, 61, "", false, x.want)
		y.has(t, x.why, x.count, x.bytes)
		y.end(t, x.why)
	}
	y := filled(t, fresh(2, 65536), 10, part(7, 0, 3, 4))
	for index := range 15 {
		y.keeps(t, "of many bytes", part(8, index, 16, 1000), 30)
	}
	y.refuses(t, "too many bytes", part(8, 15, 16, 1), 61, api.ErrBig)
	y.has(t, "too many bytes", 0, 0)
}

// TestAddForgetsOnlyWhatIsTooOld: so there may be no room, though something was forgotten.
func TestAddForgetsOnlyWhatIsTooOld(t *testing.T) {
	x := filled(t, fresh(3, 30), 10, part(7, 0, 2, 10))
	x = filled(t, x, 20, part(8, 0, 2, 10))
	x = filled(t, x, 30, part(9, 0, 2, 10))
	x.refuses(t, "none is too old", part(5, 0, 2, 1), 60, api.ErrFull)
	x.has(t, "none is too old", 3, 30)
	x.refuses(t, "one is too old, and that does not do", part(5, 0, 2, 11), 61, api.ErrFull)
	x.has(t, "one is too old, and that does not do", 2, 20)
	x.keeps(t, "there is room", part(5, 0, 2, 10), 61)
	x.refuses(t, "there is no room again", part(6, 0, 2, 1), 70, api.ErrFull)
	x.keeps(t, "a second one is too old", part(6, 0, 2, 1), 71)
	x.ends(t, "the third one", part(9, 1, 2, 1), 80, samples.OfSize(10)+samples.OfSize(1))
	x.has(t, "the third one", 2, 11)
}

// TestTimesThatGoBack: a message's age is told from its first part's time, whether later calls' times are ahead of it or not.
func TestTimesThatGoBack(t *testing.T) {
	x := roomy()
	x.keeps(t, "the first part", part(7, 0, 4, 1), 100)
	x.keeps(t, "ahead of it", part(7, 1, 4, 2), 10)
	x.keeps(t, "another message", part(8, 0, 2, 3), 20)
	x.forgets(t, "at 0", 0, 0)
	x.keeps(t, "at 0", part(7, 2, 4, 4), 0)
	x.refuses(t, "at 0", part(7, 2, 4, 4), 0, api.ErrTwice)
	x.forgets(t, "the other one is not too old", 70, 0)
	y := copied(x)
	x.forgets(t, "the other one is too old", 71, 1)
	x.has(t, "the other one is too old", 1, 7)
	x.forgets(t, "the first one is not", 150, 0)
	x.forgets(t, "the first one is, too", 151, 1)
	y.ends(t, "put together", part(7, 3, 4, 1), 60, samples.OfSize(1)+samples.OfSize(2)+samples.OfSize(4)+samples.OfSize(1))
	y.forgets(t, "what is forgotten does not come back", 71, 1)
	y.forgets(t, "what is forgotten does not come back", 0, 0)
	y.has(t, "what is forgotten does not come back", 0, 0)
	z := filled(t, roomy(), last, part(7, 0, 2, 1))
	z.keeps(t, "at 0", part(8, 0, 2, 1), 0)
	z.ends(t, "at 1", part(7, 1, 2, 1), 1, "\x00\x00")
	z.forgets(t, "at the last time", last, 1)
}

func TestIDsOfAllSizes(t *testing.T) {
	ids := []uint64{1, 2, 7, 15, 16, 255, 256, 257, 65535, 65536, 1<<31 - 1, 1 << 31, 1<<31 + 1, 1<<32 - 2, 1<<32 - 1, 1 << 32}
	x := roomy()
	for i, id := range ids {
		x.keeps(t, "of each ID", part(id, 1, 2, i+1), 10)
	}
	x.has(t, "of each ID", 16, 136)
	for i, id := range ids {
		x.ends(t, "of each ID", split.Frag{ID: id, Index: 0, Count: 2, Part: fmt.Sprint(id)}, 10, fmt.Sprint(id)+samples.OfSize(i+1))
		x.has(t, "of each ID", 15-i, 136-(i+1)*(i+2)/2)
	}
	x.refuses(t, "below the first one", part(0, 1, 2, 1), 10, api.ErrArg)
	x.refuses(t, "above the last one", part(1<<32+1, 1, 2, 1), 10, api.ErrArg)
}

// TestPartsOfAllBytes: of one byte each, and of 1000, of each byte that there is.
func TestPartsOfAllBytes(t *testing.T) {
	each := samples.EachByte()
	for i := range each {
		x := filled(t, fresh(1, 2), 10, split.Frag{ID: 7, Index: 1, Count: 2, Part: each[i : i+1]})
		x.ends(t, "of one byte each", split.Frag{ID: 7, Index: 0, Count: 2, Part: each[255-i : 256-i]}, 10, each[255-i:256-i]+each[i:i+1])
	}
	s := strings.Repeat(each, 16)
	for _, size := range []int{256, 257, 999, 1000} {
		x := roomy()
		l := parts(s, 7, size)
		for _, f := range l[1:] {
			x.keeps(t, "of as many as may be", f, 10)
		}
		x.ends(t, "of as many as may be", l[0], 10, s)
	}
	x := filled(t, roomy(), 10, part(7, 0, 2, 1000))
	x.ends(t, "of the most and of the fewest bytes", part(7, 1, 2, 1), 10, samples.OfSize(1000)+"\x00")
	x.keeps(t, "of the fewest and of the most bytes", part(7, 0, 2, 1), 10)
	x.ends(t, "of the fewest and of the most bytes", part(7, 1, 2, 1000), 10, "\x00"+samples.OfSize(1000))
}

// TestMessageComesAgain: one that was put together is known no more.
func TestMessageComesAgain(t *testing.T) {
	x := fresh(1, 10)
	l := parts("abcdefghi", 7, 3)
	for range 5 {
		x.keeps(t, "again", l[2], 10)
		x.keeps(t, "again", l[0], 10)
		x.refuses(t, "again", l[0], 10, api.ErrTwice)
		x.ends(t, "again", l[1], 10, "abcdefghi")
		x.has(t, "again", 0, 0)
	}
	x.keeps(t, "the last part again", l[1], 10)
	x.has(t, "the last part again", 1, 3)
	x.forgets(t, "it began anew", 60, 0)
	x.forgets(t, "it began anew", 61, 1)
	x.keeps(t, "of another count", part(7, 0, 2, 4), 70)
	x.ends(t, "of another count", part(7, 1, 2, 4), 70, samples.OfSize(4)+samples.OfSize(4))
}

// TestMessageBegunAnewIsOfItsOwnTime: not of that of the one that was put together.
func TestMessageBegunAnewIsOfItsOwnTime(t *testing.T) {
	x := filled(t, roomy(), 10, part(7, 0, 2, 1))
	x.ends(t, "the first one", part(7, 1, 2, 1), 40, "\x00\x00")
	x.keeps(t, "the second one", part(7, 0, 2, 1), 50)
	x.forgets(t, "behind the first one", 61, 0)
	x.ends(t, "the second one", part(7, 1, 2, 1), 100, "\x00\x00")
	x.has(t, "both are told", 0, 0)
}

// P13.3

// TestMessagesInTimeArePutTogether: in whatever order, whatever else comes.
func TestMessagesInTimeArePutTogether(t *testing.T) {
	r := rand.New(rand.NewSource(13))
	for range 300 {
		slots := 1 + r.Intn(16)
		x := fresh(slots, 65536)
		texts := map[uint64]string{}
		var l []split.Frag
		for i := range slots {
			size := 1 + r.Intn(1000)
			id := uint64(i + 1)
			texts[id] = samples.OfSize(min(4096, 4096-r.Intn(3000), size*16))
			l = append(l, parts(texts[id], id, size)...)
		}
		r.Shuffle(len(l), func(i, j int) { l[i], l[j] = l[j], l[i] })
		now := r.Uint64() >> (1 + r.Intn(63))
		for i, f := range l {
			if s, is, err := x.a.Add(f, now+uint64(r.Intn(51))); err != api.OK || is && s != texts[f.ID] || is == slices.ContainsFunc(l[i+1:], func(g split.Frag) bool { return g.ID == f.ID }) {
				t.Errorf("of %d messages: %s makes %d bytes, %t, %d", slots, short(f), len(s), is, err)
			}
			nothingNew(t, r, x, l[i], now)
		}
		x.has(t, "all are told", 0, 0)
	}
}

// nothingNew adds what is wrong, or a message of its own, or forgets what is too old, while none of a pair's is.
func nothingNew(t *testing.T, r *rand.Rand, x pair, f split.Frag, now uint64) {
	t.Helper()
	count, bytes := x.a.Held()
	other := f
	switch r.Intn(4) {
	case 0:
		other.Index = []int{-1, f.Count, math.MaxInt}[r.Intn(3)]
	case 1:
		other.ID += 1 << 32
	case 2:
		other.Index, other.Count = 0, 1
	case 3:
		other.Part = ""
	}
	if s, is, err := x.a.Add(other, now); is != (err == api.OK) || is && s != f.Part {
		t.Errorf("%s makes %d bytes, %t, %d", short(other), len(s), is, err)
	}
	if n := x.a.Expire(now); n != 0 {
		t.Errorf("%d are forgotten", n)
	}
	x.has(t, "nothing new", count, bytes)
}

// TestLongRows holds calls of all kinds against a plain list.
func TestLongRows(t *testing.T) {
	r := rand.New(rand.NewSource(1313))
	for _, row := range []struct{ slots, bytes, ids, counts, size, ticks int }{
		{1, 1, 2, 3, 1, 3},
		{1, 5, 2, 3, 3, 3},
		{2, 10, 4, 3, 5, 4},
		{3, 20, 4, 4, 5, 10},
		{4, 4096, 6, 6, 1000, 10},
		{4, 4096, 6, 16, 300, 2},
		{16, 65536, 20, 16, 1000, 1},
		{16, 65536, 17, 5, 1000, 0},
		{16, 200, 20, 5, 20, 5},
		{16, 65536, 30, 3, 10, 3},
		{2, 65536, 2, 6, 1000, 2},
		{16, 65536, 1, 2, 1000, 30},
	} {
		x := fresh(row.slots, row.bytes)
		now := uint64(100)
		for i := range 10000 {
			now += uint64(r.Intn(2*row.ticks + 1))
			count := 2 + r.Intn(row.counts-1)
			id := 1 + uint64(r.Intn(row.ids))
			if r.Intn(10) > 0 {
				count = 2 + int(id*id)%(row.counts-1)
			}
			x.some(t, r, split.Frag{ID: id, Index: r.Intn(count), Count: count, Part: samples.OfSize(1 + r.Intn(row.size))}, now)
			if i%500 == 0 {
				x.end(t, "a long row")
			}
		}
		x.end(t, "a long row")
	}
}

// some does some call on a pair: more often than not that adds a part.
func (x pair) some(t *testing.T, r *rand.Rand, f split.Frag, now uint64) {
	t.Helper()
	switch k := r.Intn(100); {
	case k < 2:
		l := wrong()
		x.add(t, "of a row, a wrong one", l[r.Intn(len(l))], now)
	case k < 4:
		f.Index, f.Count = 0, 1
		x.add(t, "of a row, one part", f, now)
	case k < 6:
		x.add(t, "of a row, back in time", f, now-uint64(r.Intn(100)))
	case k < 9:
		x.expire(t, "of a row", now)
	case k < 11:
		x.expire(t, "of a row, back in time", now-uint64(r.Intn(100)))
	case k < 13 && len(x.p.l) > 0:
		m := x.p.l[r.Intn(len(x.p.l))]
		x.expire(t, "of a row, at an edge", m.since+50+uint64(r.Intn(2)))
	case k < 40 && len(x.p.l) > 0:
		m := x.p.l[r.Intn(len(x.p.l))]
		f.ID, f.Index, f.Count = m.id, r.Intn(m.count), m.count
		x.add(t, "of a row, one that is held", f, now)
	default:
		x.add(t, "of a row", f, now)
	}
}

// TestLongRowsOfGreatTimes: of those that are the edges.
func TestLongRowsOfGreatTimes(t *testing.T) {
	r := rand.New(rand.NewSource(64))
	x := fresh(5, 50)
	l := times()
	for range 10000 {
		count := 2 + r.Intn(2)
		x.some(t, r, split.Frag{ID: 1<<32 - uint64(r.Intn(7)), Index: r.Intn(count), Count: count, Part: samples.OfSize(1 + r.Intn(9))}, l[r.Intn(len(l))]+uint64(r.Intn(3)))
	}
	x.end(t, "a long row")
}

// TestAllShortRows: each row of a few calls.
func TestAllShortRows(t *testing.T) {
	var now uint64
	calls := []func(x pair){
		func(x pair) { x.add(t, "a short row", part(1, 0, 2, 1), now) },
		func(x pair) { x.add(t, "a short row", part(1, 1, 2, 2), now) },
		func(x pair) { x.add(t, "a short row", part(1, 1, 3, 1), now) },
		func(x pair) { x.add(t, "a short row", part(2, 0, 2, 2), now) },
		func(x pair) { x.add(t, "a short row", part(2, 1, 2, 1), now) },
		func(x pair) { x.add(t, "a short row", part(2, 0, 1, 1), now) },
		func(x pair) { x.add(t, "a short row", part(2, 0, 0, 1), now) },
		func(x pair) { now += 25; x.same(t, "later") },
		func(x pair) { now++; x.expire(t, "a short row", now) },
	}
	samples.Texts("\x00\x01\x02\x03\x04\x05\x06\x07\x08", 5, func(row string) {
		for _, x := range []pair{fresh(1, 2), fresh(2, 3), fresh(2, 4)} {
			now = 10
			for i := range len(row) {
				calls[row[i]](x)
			}
		}
	})
}

// TestTwoBesideEachOther: neither changes the other one.
func TestTwoBesideEachOther(t *testing.T) {
	r := rand.New(rand.NewSource(2))
	one, other := fresh(3, 30), fresh(4, 40)
	for i := range 3000 {
		for _, x := range []pair{one, other} {
			count := 2 + r.Intn(2)
			x.some(t, r, split.Frag{ID: 1 + uint64(r.Intn(5)), Index: r.Intn(count), Count: count, Part: samples.OfSize(1 + r.Intn(9))}, 100+uint64(i*5))
			one.same(t, "one of two")
			other.same(t, "one of two")
		}
	}
	one.end(t, "one of two")
	other.end(t, "one of two")
}

func TestTwoOfTheSameParts(t *testing.T) {
	one, other := roomy(), roomy()
	l := parts("abcdef", 7, 3)
	one.keeps(t, "one", l[0], 10)
	other.has(t, "the other one", 0, 0)
	other.keeps(t, "the other one", l[1], 40)
	one.has(t, "one", 1, 3)
	other.keeps(t, "the other one", part(8, 0, 2, 1), 40)
	one.forgets(t, "one", 61, 1)
	other.has(t, "the other one", 2, 4)
	other.ends(t, "the other one", l[0], 61, "abcdef")
	one.has(t, "one", 0, 0)
}

// R4: a Pool keeps nothing of the texts that it is given, and what it answers is new memory.

func TestTextsAreNewMemory(t *testing.T) {
	room := []byte("abcdef")
	text := unsafe.String(&room[0], len(room))
	a, _ := New(4, 4096)
	one, _, _ := a.Add(split.Frag{ID: 7, Index: 0, Count: 1, Part: text}, 10)
	a.Add(split.Frag{ID: 7, Index: 1, Count: 2, Part: text}, 10)
	a.Add(split.Frag{ID: 8, Index: 0, Count: 3, Part: text[:2]}, 10)
	a.Add(split.Frag{ID: 8, Index: 1, Count: 3, Part: text[2:4]}, 10)
	for i := range room {
		room[i] = 'x'
	}
	if one != "abcdef" {
		t.Errorf("a message of one part is made %q by what is written over that", one)
	}
	if s, _, _ := a.Add(split.Frag{ID: 7, Index: 0, Count: 2, Part: text[:2]}, 10); s != "xxabcdef" {
		t.Errorf("a message is made %q by what is written over its parts", s)
	} else {
		clear(room)
		if s != "xxabcdef" {
			t.Errorf("a message is made %q by what is written over its last part", s)
		}
	}
	if s, _, _ := a.Add(split.Frag{ID: 8, Index: 2, Count: 3, Part: text[:1]}, 10); s != "abcd\x00" {
		t.Errorf("a message is made %q by what is written over its parts", s)
	}
}

// R5: the same calls are answered the same, in whatever order messages stand in maps.

func TestOneAnswer(t *testing.T) {
	r := rand.New(rand.NewSource(5))
	var l []*Pool
	for range 5 {
		a, _ := New(16, 3000)
		l = append(l, a)
	}
	for i := range 3000 {
		count := 2 + r.Intn(5)
		f := split.Frag{ID: 1 + uint64(r.Intn(20)), Index: r.Intn(count), Count: count, Part: samples.OfSize(1 + r.Intn(300))}
		now := uint64(i * r.Intn(3))
		s, is, err := l[0].Add(f, now)
		forgotten := l[0].Expire(now + 10)
		for _, a := range l[1:] {
			if s2, is2, err2 := a.Add(f, now); s2 != s || is2 != is || err2 != err {
				t.Fatalf("Add(%s, %d) = %q, %t, %d, and %q, %t, %d", short(f), now, s, is, err, s2, is2, err2)
			}
			if n := a.Expire(now + 10); n != forgotten {
				t.Fatalf("Expire(%d) = %d, and %d", now+10, forgotten, n)
			}
		}
	}
}

// R7: a copy of a Pool goes its own way.

func TestCopiesGoTheirOwnWays(t *testing.T) {
	x := filled(t, fresh(3, 100), 10, part(7, 0, 3, 5), part(8, 1, 2, 6))
	still, early := copied(x), copied(x)
	x.keeps(t, "of the original", part(7, 1, 3, 7), 20)
	x.keeps(t, "of the original", part(9, 1, 3, 7), 20)
	early.has(t, "the original has changed", 2, 11)
	early.ends(t, "of the copy", part(8, 0, 2, 1), 30, samples.OfSize(1)+samples.OfSize(6))
	x.has(t, "the copy has changed", 3, 25)
	late := copied(x)
	x.ends(t, "of the original", part(7, 2, 3, 1), 30, samples.OfSize(5)+samples.OfSize(7)+samples.OfSize(1))
	late.has(t, "the original has changed", 3, 25)
	late.forgets(t, "of the late copy", 61, 2)
	again := copied(late)
	late.ends(t, "of the late copy", part(7, 0, 1, 1), 71, samples.OfSize(1))
	late.has(t, "of the late copy", 0, 0)
	for _, one := range []pair{again, x, early, late, still} {
		one.same(t, "each of them")
	}
	for _, one := range []pair{late, early, still, x, again} {
		one.end(t, "each of them")
	}
	still.has(t, "the copy to which nothing is done", 2, 11)
	still.keeps(t, "the part that another one has", part(7, 1, 3, 1), 20)
	early.keeps(t, "the part that another one has", part(7, 1, 3, 2), 20)
	still.ends(t, "the last one", part(7, 2, 3, 1), 20, samples.OfSize(5)+"\x00\x00")
	early.ends(t, "the last one", part(7, 2, 3, 1), 20, samples.OfSize(5)+samples.OfSize(2)+"\x00")
}

// TestPoolThatIsLaidBack: made again what it was, it has nothing of what it had meanwhile.
func TestPoolThatIsLaidBack(t *testing.T) {
	x := filled(t, fresh(3, 100), 10, part(7, 0, 3, 5), part(8, 1, 2, 6))
	early := copied(x)
	x.keeps(t, "meanwhile", part(7, 1, 3, 7), 20)
	x.ends(t, "meanwhile", part(8, 0, 2, 7), 20, samples.OfSize(7)+samples.OfSize(6))
	late := copied(x)
	*x.a = *early.a
	x.p.l = slices.Clone(early.p.l)
	x.same(t, "laid back")
	x.keeps(t, "behind that", part(7, 1, 3, 1), 20)
	x.keeps(t, "behind that", part(9, 1, 3, 1), 20)
	late.has(t, "the late copy", 1, 12)
	early.has(t, "the early copy", 2, 11)
	x.forgets(t, "laid back", 61, 2)
	late.end(t, "the late copy")
	early.end(t, "the early copy")
}

// TestManyCopies holds copies of copies against plain lists, each of which something is done with now and then.
func TestManyCopies(t *testing.T) {
	r := rand.New(rand.NewSource(77))
	l := []pair{fresh(4, 60)}
	for step := range 10000 {
		i := r.Intn(len(l))
		count := 2 + r.Intn(3)
		l[i].some(t, r, split.Frag{ID: 1 + uint64(r.Intn(6)), Index: r.Intn(count), Count: count, Part: samples.OfSize(1 + r.Intn(9))}, 100+uint64(step))
		switch r.Intn(20) {
		case 0:
			l = append(l, copied(l[r.Intn(len(l))]))
		case 1:
			*l[i].a = *l[0].a
			l[i].p.l = slices.Clone(l[0].p.l)
		}
		if len(l) > 10 {
			place := r.Intn(len(l))
			l[place].end(t, "one of many copies")
			l = slices.Delete(l, place, place+1)
		}
	}
	for _, x := range l {
		x.end(t, "one of many copies")
	}
}
