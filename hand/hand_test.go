package hand

import (
	"math"
	"math/rand"
	"slices"
	"strings"
	"testing"

	"sough/api"
	"sough/know"
	"sough/msg"
	"sough/samples"
	"sough/sym"
	"sough/term"
)

// last is the greatest number that a message may be from or to.
const last = 1 << 32

// told is what a call tells; what it has none of is zero.
type told struct {
	keys    Static
	m       msg.Msg
	pending Pending
	opened  Opened
	session Session
	err     api.Errno
}

// call is one of the package's calls: what it tells, and what it is reckoned to tell.
type call interface {
	ask(s *term.Store) told
	reckon(r *reckoning) told
}

// public is what Publics is asked with.
type public Static

func (c public) ask(s *term.Store) told {
	keys, err := Publics(s, Static(c))
	return told{keys: keys, err: err}
}

func (c public) reckon(r *reckoning) told { return told{keys: r.publics(Static(c))} }

func (c begins) ask(s *term.Store) told {
	m, p, err := Begin(s, c.me, c.p, c.m, c.stamp, c.drawn)
	return told{m: m, pending: p, err: err}
}

func (c begins) reckon(r *reckoning) told {
	m, p := r.begin(c)
	return told{m: m, pending: p}
}

// ask looks, too, whether the list of peers is left as it was.
func (c opens) ask(s *term.Store) told {
	was := slices.Clone(c.peers)
	o, err := Open(s, c.me, c.peers, c.offer, c.m)
	if !slices.Equal(c.peers, was) {
		panic("the peers are changed")
	}
	return told{opened: o, err: err}
}

func (c opens) reckon(r *reckoning) told { return told{opened: r.opened(c)} }

func (c answers) ask(s *term.Store) told {
	m, x, err := Answer(s, c.o, c.from, c.to, c.drawn)
	return told{m: m, session: x, err: err}
}

func (c answers) reckon(r *reckoning) told {
	m, x := r.answer(c)
	return told{m: m, session: x}
}

func (c finishes) ask(s *term.Store) told {
	x, err := Finish(s, c.me, c.p, c.m)
	return told{session: x, err: err}
}

func (c finishes) reckon(r *reckoning) told { return told{session: r.finish(c)} }

// reckoned is what a call is reckoned to tell where there are these terms, and which there are then.
func reckoned(l []term.Term, c call) (told, []term.Term) {
	r := &reckoning{l: l}
	x := c.reckon(r)
	if r.err != api.OK {
		x = told{err: r.err}
	}
	return x, r.l
}

// asked looks whether a call tells just this in a store of these terms, with room for so many, and leaves these; and whether it tells the same again, and puts nothing then.
func asked(t *testing.T, why string, l []term.Term, most int, c call, want told, after []term.Term) {
	t.Helper()
	s := samples.Store(most, l...)
	for range 2 {
		is(t, why, c.ask(s), want)
		if got := samples.All(s); !slices.Equal(got, after) {
			t.Errorf("%s: the store has %d terms, %+v, not %d, %+v", why, len(got), got, len(after), after)
		}
	}
}

// does looks whether a call tells and puts what is reckoned, where there is room for all of it and for more; and whether, where there is less, it tells that alone, and what it put ahead stays.
func does(t *testing.T, why string, l []term.Term, c call) (told, []term.Term) {
	t.Helper()
	want, after := reckoned(l, c)
	asked(t, why, l, len(after), c, want, after)
	asked(t, why, l, len(after)+20, c, want, after)
	for room := len(l); room < len(after); room++ {
		asked(t, why+" without room", l, room, c, told{err: api.ErrBig}, after[:room])
	}
	return want, after
}

// refused looks whether a call is refused with this error, behind so many new terms.
func refused(t *testing.T, why string, l []term.Term, c call, want api.Errno, puts int) {
	t.Helper()
	x, after := does(t, why, l, c)
	is(t, why, x, told{err: want})
	is(t, why+": the number of terms that stay", len(after)-len(l), puts)
}

// is looks whether something is what is due.
func is[T comparable](t *testing.T, why string, got, want T) {
	t.Helper()
	if got != want {
		t.Errorf("%s is %+v, not %+v", why, got, want)
	}
}

// people are three endpoints, and the terms that there are: first one of each kind, so that a kind is the name of one of its kind.
type people struct {
	l       []term.Term
	me, pub [3]Static
	// psk are the secrets of two of them, by the one that is left.
	psk [3][2]int
	// drawn are nonces that no one has yet.
	drawn [10]int
}

func newPeople() *people {
	w := &people{l: samples.OfEachKind()}
	draws := uint64(100)
	draw := func() int {
		draws++
		return w.put(samples.Nonce(draws))
	}
	for i := range w.me {
		w.me[i] = Static{Dh: draw(), Kem: draw()}
		w.psk[i] = [2]int{draw(), draw()}
	}
	for i := range w.drawn {
		w.drawn[i] = draw()
	}
	for i, me := range w.me {
		w.pub[i] = Static{Dh: w.put(samples.Pub(me.Dh)), Kem: w.put(samples.Kpub(me.Kem))}
	}
	return w
}

func (w *people) put(x term.Term) int {
	var name int
	w.l, name = samples.With(w.l, x)
	return name
}

// of is the term of a name.
func (w *people) of(name int) term.Term { return w.l[name-1] }

// peer is what one of the three knows of another one.
func (w *people) peer(one, other int) Peer {
	return Peer{Pub: w.pub[other], Psk: w.psk[3-one-other]}
}

// peers are both others, rising.
func (w *people) peers(one int) []Peer {
	var l []Peer
	for other := range w.me {
		if other != one {
			l = append(l, w.peer(one, other))
		}
	}
	return l
}

// does has a call done, and its terms there from then on.
func (w *people) does(t *testing.T, why string, c call) told {
	t.Helper()
	var x told
	x, w.l = does(t, why, w.l, c)
	return x
}

// beginning is what the endpoint 0 begins with the endpoint 1.
func (w *people) beginning() begins {
	m := msg.Msg{From: 5, Offer: "\x03\x02", Slot: 0}
	return begins{me: w.me[0], p: w.peer(0, 1), m: m, stamp: 300, drawn: [3]int(w.drawn[:3])}
}

// opening is how the endpoint 1 opens a message.
func (w *people) opening(m msg.Msg) opens {
	return opens{me: w.me[1], peers: w.peers(1), offer: "\x02\x01", m: m}
}

// answering is how the endpoint 1 answers what it opened.
func (w *people) answering(o Opened) answers {
	return answers{o: o, from: 9, to: 5, drawn: [2]int(w.drawn[3:5])}
}

// begun are people of whom the endpoint 0 has begun a handshake with the endpoint 1.
func begun(t *testing.T) (*people, msg.Msg, Pending) {
	t.Helper()
	w := newPeople()
	x := w.does(t, "what is begun", w.beginning())
	return w, x.m, x.pending
}

// answered are people of whom the endpoint 1 has answered it, too.
func answered(t *testing.T) (*people, Pending, msg.Msg, Session) {
	t.Helper()
	w, m, p := begun(t)
	x := w.does(t, "what is opened", w.opening(m))
	y := w.does(t, "what is answered", w.answering(x.opened))
	return w, p, y.m, y.session
}

// forged is a message as c would begin it, in which these texts are sealed instead of a public key and a stamp: their names.
func (w *people) forged(c begins, first, second int) msg.Msg {
	r := &reckoning{l: w.l}
	m, _ := r.beginWith(c, func() int { return first }, func() int { return second })
	w.l = r.l
	return m
}

// forgedAnswer is a message as c would answer, in which this is sealed instead of a version.
func (w *people) forgedAnswer(c answers, version int) msg.Msg {
	r := &reckoning{l: w.l}
	m, _ := r.answerWith(c, func() int { return version })
	w.l = r.l
	return m
}

// noNames are numbers that are no term's name there, nor that of what is put first.
func noNames(l []term.Term) []int {
	return []int{0, -1, math.MinInt, len(l) + 200, api.MaxTerms + 1, math.MaxInt}
}

// TestWholeHandshakeTermByTerm: all that is put, in its order, and told, written out by the chapter's words.
func TestWholeHandshakeTermByTerm(t *testing.T) {
	text, hash, key, seal := samples.Text, samples.Hash, samples.Key, samples.Seal
	pub, kpub, share, box, secret := samples.Pub, samples.Kpub, samples.Share, samples.Box, samples.Kem
	l := []term.Term{
		samples.Nonce(1), samples.Nonce(2), samples.Nonce(3), samples.Nonce(4), samples.Nonce(5), samples.Nonce(6),
		samples.Nonce(7), samples.Nonce(8), samples.Nonce(9), samples.Nonce(10), samples.Nonce(11),
		pub(3), kpub(4), pub(1), kpub(2), // 12 to 15
		text("sough"), text("\x02\x01"), hash(16, 17), text("1"), hash(18, 19), hash(20, 12), hash(21, 13), // 16 to 22
		pub(7), hash(22, 23), kpub(8), hash(24, 25), // 23 to 26
		share(3, 7), hash(16, 27), key(28, 1), key(28, 2), // 27 to 30
		box(4, 9), secret(4, 9), hash(26, 31), hash(29, 32), key(34, 1), key(34, 2), // 31 to 36
		seal(36, 0, 33, 14), hash(33, 37), // 37 and 38
		share(1, 3), hash(35, 39), key(40, 1), key(40, 2), // 39 to 42
		hash(41, 6), key(43, 1), key(43, 2), // 43 to 45
		text("\x82\x2c"), seal(45, 0, 38, 46), hash(38, 47), // 46 to 48
		pub(10), hash(48, 49), // 49 and 50
		share(7, 10), hash(44, 51), key(52, 1), key(52, 2), // 51 to 54
		share(1, 10), hash(53, 55), key(56, 1), key(56, 2), // 55 to 58
		box(8, 11), secret(8, 11), hash(50, 59), hash(57, 60), key(62, 1), key(62, 2), // 59 to 64
		text("\x02"), seal(64, 0, 61, 65), hash(61, 66), // 65 to 67
		text(""), hash(63, 68), key(69, 1), key(69, 2), // 68 to 71
	}
	a, b := Static{Dh: 1, Kem: 2}, Static{Dh: 3, Kem: 4}
	fromA, fromB := Peer{Pub: Static{Dh: 12, Kem: 13}, Psk: [2]int{5, 6}}, Peer{Pub: Static{Dh: 14, Kem: 15}, Psk: [2]int{5, 6}}
	s := samples.Store(len(l), l[:15]...)
	has := func(why string, count int) {
		t.Helper()
		if got := samples.All(s); !slices.Equal(got, l[:count]) {
			t.Fatalf("%s: the store has %+v, not %+v", why, got, l[:count])
		}
	}
	m, p, err := Begin(s, a, fromA, msg.Msg{From: 5, Offer: "\x02\x01", Slot: 1}, 300, [3]int{7, 8, 9})
	is(t, "Begin's error", err, api.OK)
	is(t, "the message", m, msg.Msg{Kind: msg.Init, From: 5, Offer: "\x02\x01", Slot: 1, E: 23, EK: 25, Box: 31, C1: 37, C2: 47})
	is(t, "the pending handshake", p, Pending{Y: sym.Sym{CK: 44, K: 45, H: 48, N: 1}, E: 7, EK: 8, Offer: "\x02\x01"})
	has("Begin", 48)
	o, err := Open(s, b, []Peer{fromB}, "\x03\x02", m)
	is(t, "Open's error", err, api.OK)
	is(t, "what is opened", o, Opened{Y: p.Y, Peer: 0, Version: 2, Stamp: 300, E: 23, EK: 25, Pub: 14})
	has("Open", 48)
	m, theirs, err := Answer(s, o, 9, 5, [2]int{10, 11})
	is(t, "Answer's error", err, api.OK)
	is(t, "the answer", m, msg.Msg{Kind: msg.Resp, From: 9, To: 5, E: 49, Box: 59, C1: 66})
	is(t, "the session of who answered", theirs, Session{H: 67, Send: 71, Recv: 70, Version: 2})
	has("Answer", 71)
	mine, err := Finish(s, a, p, m)
	is(t, "Finish's error", err, api.OK)
	is(t, "the session of who began", mine, Session{H: 67, Send: 70, Recv: 71, Version: 2})
	has("Finish", 71)
}

// TestExampleOfTheChapter: one of both has another Psk in that slot.
func TestExampleOfTheChapter(t *testing.T) {
	for slot := range 2 {
		w := newPeople()
		c := w.beginning()
		c.m.Slot = slot
		c.p.Psk[slot] = w.drawn[9]
		m := w.does(t, "what is begun", c).m
		o := w.opening(m)
		// Who began is known by then, and its Psk mixed in: it is C2 that does not open.
		refused(t, "another Psk", w.l, o, api.ErrSeal, 3)
		o.peers[0].Psk[slot] = w.drawn[9]
		x, _ := does(t, "that Psk", w.l, o)
		is(t, "the error of that Psk", x.err, api.OK)
	}
}

// P17.1

// TestPublicsOfAllKinds: every term may be a secret, both of one, and what is there is told again.
func TestPublicsOfAllKinds(t *testing.T) {
	l := samples.OfEachKind()
	for dh := 1; dh <= len(l); dh++ {
		for kem := 1; kem <= len(l); kem++ {
			x, after := does(t, "both keys", l, public{Dh: dh, Kem: kem})
			is(t, "the error", x.err, api.OK)
			is(t, "the public key", after[x.keys.Dh-1], samples.Pub(dh))
			is(t, "the wrapping key", after[x.keys.Kem-1], samples.Kpub(kem))
		}
	}
	x, _ := does(t, "keys that are there", l, public{Dh: 2, Kem: 2})
	is(t, "keys that are there", x.keys, Static{Dh: term.Pub, Kem: term.Kpub})
}

// TestPublicsOfNoTerms: a public key that was put ahead of the error stays.
func TestPublicsOfNoTerms(t *testing.T) {
	l := samples.OfEachKind()
	for _, none := range []int{0, -1, -2, math.MinInt, len(l) + 2, len(l) + 3, api.MaxTerms + 1, math.MaxInt} {
		refused(t, "a Dh that is none", l, public{Dh: none, Kem: 1}, api.ErrArg, 0)
		refused(t, "neither is a term", l, public{Dh: none, Kem: none}, api.ErrArg, 0)
		refused(t, "a Kem that is none", l, public{Dh: 1, Kem: none}, api.ErrArg, 1)
		refused(t, "a Kem that is none, of a key that is there", l, public{Dh: 2, Kem: none}, api.ErrArg, 0)
	}
	refused(t, "no terms at all", nil, public{}, api.ErrArg, 0)
	refused(t, "a Dh above the last one", l, public{Dh: len(l) + 1, Kem: 1}, api.ErrArg, 0)
	// The name behind the last one is the public key's own, by the time that the wrapping key is put.
	x, after := does(t, "a Kem that is there by then", l, public{Dh: 1, Kem: len(l) + 1})
	is(t, "the wrapping key", after[x.keys.Kem-1], samples.Kpub(len(l)+1))
}

func TestPublicsWithoutRoom(t *testing.T) {
	s := samples.Store(3, samples.Nonce(1), samples.Nonce(2))
	keys, err := Publics(s, Static{Dh: 1, Kem: 2})
	is(t, "keys where there is room for one", told{keys: keys, err: err}, told{err: api.ErrBig})
	if want := []term.Term{samples.Nonce(1), samples.Nonce(2), samples.Pub(1)}; !slices.Equal(samples.All(s), want) {
		t.Errorf("the store has %+v, not %+v", samples.All(s), want)
	}
}

// P17.2

// stamps are the edges of a stamp's bytes, and these.
var stamps = map[uint64]string{
	0: "\x00", 1: "\x01", 127: "\x7f", 128: "\x81\x00", 300: "\x82\x2c", 16383: "\xff\x7f", 16384: "\x81\x80\x00",
	math.MaxUint64: "\x81\xff\xff\xff\xff\xff\xff\xff\xff\x7f",
}

// TestBeginFieldByField: with each slot, and unlike offers, stamps and numbers.
func TestBeginFieldByField(t *testing.T) {
	for slot := range 2 {
		for _, versions := range []string{"\x01", "\xff", "\x02\x01", "\xff\x80\x7f\x01", "\x08\x07\x06\x05\x04\x03\x02\x01"} {
			for stamp, digits := range stamps {
				for _, from := range []uint64{1, 2, last - 1, last} {
					w := newPeople()
					c := w.beginning()
					c.m = msg.Msg{From: from, Offer: versions, Slot: slot}
					c.stamp = stamp
					x, l := reckoned(w.l, c)
					asked(t, "what is begun", w.l, len(l), c, x, l)
					w.l = l
					is(t, "the error", x.err, api.OK)
					is(t, "that it may be", msg.Right(x.m), true)
					is(t, "what is plain", x.m, msg.Msg{Kind: msg.Init, From: from, Offer: versions, Slot: slot, E: x.m.E, EK: x.m.EK, Box: x.m.Box, C1: x.m.C1, C2: x.m.C2})
					is(t, "E", w.of(x.m.E), samples.Pub(c.drawn[0]))
					is(t, "EK", w.of(x.m.EK), samples.Kpub(c.drawn[1]))
					is(t, "Box", w.of(x.m.Box), samples.Box(w.me[1].Kem, c.drawn[2]))
					is(t, "what is sealed in C1", w.of(x.m.C1).C, w.pub[0].Dh)
					is(t, "what is sealed in C2", w.of(w.of(x.m.C2).C), samples.Text(digits))
					y := x.pending.Y
					is(t, "the hash", w.of(y.H), samples.Hash(w.of(x.m.C2).B, x.m.C2))
					is(t, "what stands beside C2", w.of(w.of(x.m.C2).B), samples.Hash(w.of(x.m.C1).B, x.m.C1))
					is(t, "the key", w.of(x.m.C2).A, y.K)
					is(t, "what is kept", x.pending, Pending{Y: sym.Sym{CK: y.CK, K: y.K, H: y.H, N: 1}, E: c.drawn[0], EK: c.drawn[1], Offer: versions})
				}
			}
		}
	}
}

// TestBeginAsksForNothingElse: neither for the message's other fields, nor for Me's Kem, nor for the Psk of the other slot.
func TestBeginAsksForNothingElse(t *testing.T) {
	w := newPeople()
	for slot := range 2 {
		c := w.beginning()
		c.m.Slot = slot
		want, after := does(t, "what is begun", w.l, c)
		is(t, "the error", want.err, api.OK)
		for _, any := range append(noNames(w.l), 1, 2, term.Kpub) {
			c.m = msg.Msg{Kind: any, From: c.m.From, To: uint64(any), Offer: c.m.Offer, Slot: slot, Code: any, E: any, EK: any, Box: any, C1: any, C2: any, Epoch: uint64(any), N: uint64(any)}
			c.me.Kem = any
			c.p.Psk[1-slot] = any
			asked(t, "what is begun", w.l, len(after), c, want, after)
		}
	}
}

// TestBeginRefusesSlots: ahead of all else, with nothing put, whatever room there is.
func TestBeginRefusesSlots(t *testing.T) {
	w := newPeople()
	for _, slot := range []int{-1, -2, 2, 3, 255, 256, 1 << 32, math.MinInt, math.MaxInt} {
		c := w.beginning()
		c.m.Slot = slot
		refused(t, "a slot that is none", w.l, c, api.ErrArg, 0)
		asked(t, "a slot that is none, and no room", w.l, len(w.l), c, told{err: api.ErrArg}, w.l)
		refused(t, "a slot that is none, and nothing else", w.l, begins{m: msg.Msg{Slot: slot}}, api.ErrArg, 0)
		refused(t, "a slot that is none, and too long an offer", w.l, begins{m: msg.Msg{Slot: slot, Offer: strings.Repeat("x", 1001)}}, api.ErrArg, 0)
		refused(t, "a slot that is none, where nothing is", nil, begins{m: msg.Msg{Slot: slot}}, api.ErrArg, 0)
	}
}

// noOffers are texts of at most 1000 bytes that are no offers.
var noOffers = []string{"", "\x00", "\x01\x00", "\x01\x02", "\x03\x03", "\x03\x02\x02", "\x09\x08\x07\x06\x05\x04\x03\x02\x01", strings.Repeat("x", 1000)}

// TestBeginRefusesMessagesThatMayNotBe: behind all else, so that all that is put stays.
func TestBeginRefusesMessagesThatMayNotBe(t *testing.T) {
	w := newPeople()
	_, after := reckoned(w.l, w.beginning())
	whole := len(after) - len(w.l)
	for _, none := range noOffers {
		c := w.beginning()
		c.m.Offer = none
		refused(t, "an offer that is none", w.l, c, api.ErrForm, whole)
		c.drawn[2] = 0
		x, _ := does(t, "an offer that is none, and a draw that is none", w.l, c)
		is(t, "a draw goes first", x.err, api.ErrArg)
	}
	for _, none := range append(samples.Above32(), 0) {
		c := w.beginning()
		c.m.From = none
		refused(t, "a number that may not be", w.l, c, api.ErrForm, whole)
		c.p.Psk[0] = 0
		x, _ := does(t, "a number that may not be, and a Psk that is none", w.l, c)
		is(t, "a Psk goes first", x.err, api.ErrArg)
	}
	c := w.beginning()
	c.m.Offer = strings.Repeat("x", 1001)
	refused(t, "an offer that is too long for a Text", w.l, c, api.ErrArg, 1)
}

// TestBeginRefusesWhatIsNoTerm: each alone, behind what is put ahead of its step.
func TestBeginRefusesWhatIsNoTerm(t *testing.T) {
	w := newPeople()
	for _, none := range noNames(w.l) {
		for i, x := range []struct {
			why  string
			at   func(c *begins) *int
			puts int
		}{
			{"a peer's Dh", func(c *begins) *int { return &c.p.Pub.Dh }, 5},
			{"a peer's Kem", func(c *begins) *int { return &c.p.Pub.Kem }, 6},
			{"what is drawn for E", func(c *begins) *int { return &c.drawn[0] }, 7},
			{"what is drawn for EK", func(c *begins) *int { return &c.drawn[1] }, 9},
			{"what is drawn for the box", func(c *begins) *int { return &c.drawn[2] }, 15},
			{"my Dh", func(c *begins) *int { return &c.me.Dh }, 21},
			{"the Psk", func(c *begins) *int { return &c.p.Psk[0] }, 27},
		} {
			c := w.beginning()
			*x.at(&c) = none
			refused(t, x.why, w.l, c, api.ErrArg, x.puts)
			// What a later step asks for makes no difference.
			if i < 5 {
				c.me.Dh, c.p.Psk = none, [2]int{none, none}
			}
			c.m.Offer = "\x01\x02"
			refused(t, x.why+", and what is asked for later", w.l, c, api.ErrArg, x.puts)
		}
	}
}

// TestBeginOfOtherKinds: a peer's Dh is a Pub, its Kem a Kpub; all else may be any term.
func TestBeginOfOtherKinds(t *testing.T) {
	w := newPeople()
	for kind := term.Text; kind < term.Kinds; kind++ {
		c := w.beginning()
		c.p.Pub.Dh = kind
		if kind == term.Pub {
			is(t, "a peer's Dh", w.does(t, "a Pub as a peer's Dh", c).err, api.OK)
		} else {
			refused(t, "a peer's Dh of another kind", w.l, c, api.ErrArg, 11)
		}
		w = newPeople()
		c = w.beginning()
		c.p.Pub.Kem = kind
		if kind == term.Kpub {
			is(t, "a peer's Kem", w.does(t, "a Kpub as a peer's Kem", c).err, api.OK)
		} else {
			refused(t, "a peer's Kem of another kind", w.l, c, api.ErrArg, 15)
		}
		w = newPeople()
		for _, at := range []func(c *begins) *int{
			func(c *begins) *int { return &c.drawn[0] }, func(c *begins) *int { return &c.drawn[1] }, func(c *begins) *int { return &c.drawn[2] },
			func(c *begins) *int { return &c.me.Dh }, func(c *begins) *int { return &c.p.Psk[0] },
		} {
			c = w.beginning()
			*at(&c) = kind
			x, _ := does(t, "any term", w.l, c)
			is(t, "any term", x.err, api.OK)
		}
	}
}

// P17.3

// TestOpenOfWhatWasBegun: what was begun is told, with each slot, offers that are equal and unlike, and stamps.
func TestOpenOfWhatWasBegun(t *testing.T) {
	for slot := range 2 {
		for stamp := range stamps {
			for _, x := range []struct {
				mine, theirs string
				version      int
			}{{"\x01", "\x01", 1}, {"\x03\x02", "\x02\x01", 2}, {"\x02\x01", "\x03\x02\x01", 2}, {"\xff\x01", "\xff", 255}, {"\x08\x07\x06\x05\x04\x03\x02\x01", "\x08\x07\x06\x05\x04\x03\x02\x01", 8}, {"\x09\x03", "\x08\x03\x01", 3}} {
				w := newPeople()
				c := w.beginning()
				c.m = msg.Msg{From: 7, Offer: x.mine, Slot: slot}
				c.stamp = stamp
				b, l := reckoned(w.l, c)
				w.l = l
				o := w.opening(b.m)
				o.offer = x.theirs
				got, after := does(t, "what was begun", w.l, o)
				is(t, "what is opened", got, told{opened: Opened{Y: b.pending.Y, Peer: 0, Version: x.version, Stamp: stamp, E: b.m.E, EK: b.m.EK, Pub: w.pub[0].Dh}})
				is(t, "how many terms are put beside a public key of its own", len(after)-len(l), 0)
			}
		}
	}
}

// TestOpenTellsThePeersPlace: the first one of those that have the key, wherever it stands; the keys of its Kem are not asked for.
func TestOpenTellsThePeersPlace(t *testing.T) {
	w, m, p := begun(t)
	mine, other, none := w.peer(1, 0), w.peer(1, 2), Peer{}
	twice := mine
	twice.Pub.Kem = -3
	turned := mine
	turned.Psk[0] = w.drawn[9]
	for _, x := range []struct {
		why   string
		peers []Peer
		place int
		err   api.Errno
	}{
		{"alone", []Peer{mine}, 0, api.OK},
		{"first", []Peer{mine, other, none}, 0, api.OK},
		{"in the middle", []Peer{other, mine, none}, 1, api.OK},
		{"last", []Peer{none, other, other, mine}, 3, api.OK},
		{"eighth", []Peer{none, other, none, other, none, other, none, mine}, 7, api.OK},
		{"twice", []Peer{other, mine, none, mine}, 1, api.OK},
		{"twice, once with another Kem", []Peer{other, twice, mine}, 1, api.OK},
		{"with another secret ahead", []Peer{other, turned, mine}, 0, api.ErrSeal},
		{"with another secret behind", []Peer{other, mine, turned}, 1, api.OK},
		{"with another Kem", []Peer{twice}, 0, api.OK},
		{"none", []Peer{other, none}, 0, api.ErrNone},
		{"none of none", nil, 0, api.ErrNone},
		{"none of an empty list", []Peer{}, 0, api.ErrNone},
		{"with its keys the wrong way round", []Peer{{Pub: Static{Dh: mine.Pub.Kem, Kem: mine.Pub.Dh}, Psk: mine.Psk}}, 0, api.ErrNone},
	} {
		c := w.opening(m)
		c.peers = x.peers
		got, _ := does(t, x.why, w.l, c)
		want := told{err: x.err}
		if x.err == api.OK {
			want.opened = Opened{Y: p.Y, Peer: x.place, Version: 2, Stamp: 300, E: m.E, EK: m.EK, Pub: w.pub[0].Dh}
		}
		is(t, x.why, got, want)
	}
}

// notRight are messages like m, each with one field that may not be so.
func notRight(m msg.Msg) []msg.Msg {
	var l []msg.Msg
	with := func(change func(m *msg.Msg)) {
		other := m
		change(&other)
		if other != m {
			l = append(l, other)
		}
	}
	for _, kind := range []int{-1, 0, msg.Init, msg.Resp, msg.Reject, msg.Data, msg.Kinds, math.MaxInt} {
		with(func(m *msg.Msg) { m.Kind = kind })
	}
	for _, n := range append(samples.Above32(), 0) {
		with(func(m *msg.Msg) { m.From = n })
		with(func(m *msg.Msg) { m.To = n })
	}
	for _, name := range []func(m *msg.Msg) *int{
		func(m *msg.Msg) *int { return &m.E }, func(m *msg.Msg) *int { return &m.EK }, func(m *msg.Msg) *int { return &m.Box },
		func(m *msg.Msg) *int { return &m.C1 }, func(m *msg.Msg) *int { return &m.C2 },
	} {
		for _, none := range []int{0, -1, math.MinInt, api.MaxTerms + 1, math.MaxInt} {
			with(func(m *msg.Msg) { *name(m) = none })
		}
	}
	with(func(m *msg.Msg) { m.Code = 1 })
	with(func(m *msg.Msg) { m.Epoch = 1 })
	with(func(m *msg.Msg) { m.N = 1 })
	return l
}

// TestOpenRefusesOtherMessages: ahead of all else, with nothing put.
func TestOpenRefusesOtherMessages(t *testing.T) {
	w, m, _ := begun(t)
	l := append(notRight(m), msg.Msg{}, msg.Msg{Kind: msg.Data, To: 1, C1: 1}, msg.Msg{Kind: msg.Reject, To: 1, Code: 1}, msg.Msg{Kind: msg.Resp, From: 1, To: 1, E: 1, Box: 1, C1: 1})
	for _, slot := range []int{-1, 2, math.MinInt, math.MaxInt} {
		other := m
		other.Slot = slot
		l = append(l, other)
	}
	for _, none := range noOffers {
		other := m
		other.Offer = none
		l = append(l, other)
	}
	for _, other := range l {
		if msg.Right(other) && other.Kind == msg.Init {
			t.Fatalf("%+v may be", other)
		}
		refused(t, "another message", w.l, w.opening(other), api.ErrForm, 0)
		refused(t, "another message, and nothing else", w.l, opens{m: other}, api.ErrForm, 0)
		refused(t, "another message, and no version in common", w.l, opens{offer: "\x01", m: other}, api.ErrForm, 0)
	}
}

// TestOpenRefusesVersions: ahead of all but the message itself, with nothing put.
func TestOpenRefusesVersions(t *testing.T) {
	w, m, _ := begun(t)
	for _, none := range append(noOffers, strings.Repeat("x", 2000)) {
		c := w.opening(m)
		c.offer = none
		refused(t, "an offer that is none", w.l, c, api.ErrForm, 0)
		refused(t, "an offer that is none, and nothing else", w.l, opens{offer: none, m: m}, api.ErrForm, 0)
	}
	for _, other := range []string{"\x01", "\x04", "\xff\x04\x01", "\x09\x08\x07\x06\x05\x04\x01"} {
		c := w.opening(m)
		c.offer = other
		refused(t, "no version in common", w.l, c, api.ErrVersion, 0)
		refused(t, "no version in common, and nothing else", w.l, opens{offer: other, m: m}, api.ErrVersion, 0)
	}
}

// TestOpenRefusesSecretsThatAreNoTerms: behind the version; what is put of both public keys stays.
func TestOpenRefusesSecretsThatAreNoTerms(t *testing.T) {
	w, m, _ := begun(t)
	other := w.drawn[8]
	for _, none := range noNames(w.l) {
		for _, x := range []struct {
			me   Static
			puts int
		}{{Static{Dh: none, Kem: w.me[1].Kem}, 0}, {Static{Dh: w.me[1].Dh, Kem: none}, 0}, {Static{Dh: other, Kem: none}, 1}, {Static{Dh: none, Kem: none}, 0}, {Static{Dh: none, Kem: other}, 0}} {
			c := w.opening(m)
			c.me = x.me
			refused(t, "a secret that is no term", w.l, c, api.ErrArg, x.puts)
			c.peers = nil
			refused(t, "a secret that is no term, and no peers", w.l, c, api.ErrArg, x.puts)
			c.offer = "\x01"
			refused(t, "no version goes first", w.l, c, api.ErrVersion, 0)
		}
		c := w.opening(m)
		c.peers[0].Psk[0] = none
		refused(t, "a Psk that is no term", w.l, c, api.ErrArg, 0)
		c = w.opening(m)
		c.peers[0].Psk[1] = none
		x, _ := does(t, "a Psk of the other slot that is no term", w.l, c)
		is(t, "the error", x.err, api.OK)
	}
}

// TestOpenRefusesWhatIsOtherInBetween: whatever is another one on its way, nothing is opened.
func TestOpenRefusesWhatIsOtherInBetween(t *testing.T) {
	w, m, _ := begun(t)
	// Another handshake of the same two, of which all is drawn anew.
	c := w.beginning()
	c.drawn = [3]int(w.drawn[5:8])
	c.stamp = 301
	other := w.does(t, "another one", c).m
	toThird := w.put(samples.Box(w.me[2].Kem, w.drawn[2]))
	fresh := w.put(samples.Box(w.me[1].Kem, w.drawn[9]))
	turned := w.put(samples.Box(w.drawn[2], w.me[1].Kem))
	unlike := w.put(samples.Seal(w.of(m.C1).A, w.of(m.C1).N+1, w.of(m.C1).B, w.of(m.C1).C))
	for _, x := range []struct {
		why    string
		change func(m *msg.Msg)
		err    api.Errno
	}{
		{"another offer, of the same version", func(m *msg.Msg) { m.Offer = "\x02" }, api.ErrSeal},
		{"another offer, of another version", func(m *msg.Msg) { m.Offer = "\x02\x01" }, api.ErrSeal},
		{"the other slot", func(m *msg.Msg) { m.Slot = 1 }, api.ErrSeal},
		{"another E", func(m *msg.Msg) { m.E = other.E }, api.ErrSeal},
		{"its own public key as E", func(m *msg.Msg) { m.E = w.pub[1].Dh }, api.ErrSeal},
		{"an E of another kind", func(m *msg.Msg) { m.E = m.EK }, api.ErrArg},
		{"an E that is no term", func(m *msg.Msg) { m.E = api.MaxTerms }, api.ErrArg},
		{"another EK", func(m *msg.Msg) { m.EK = other.EK }, api.ErrSeal},
		{"an EK of another kind", func(m *msg.Msg) { m.EK = m.E }, api.ErrSeal},
		{"an EK that is no term", func(m *msg.Msg) { m.EK = api.MaxTerms }, api.ErrArg},
		{"another Box", func(m *msg.Msg) { m.Box = other.Box }, api.ErrSeal},
		{"a Box of what was not said", func(m *msg.Msg) { m.Box = fresh }, api.ErrSeal},
		{"a Box of another one", func(m *msg.Msg) { m.Box = toThird }, api.ErrBox},
		{"a Box the other way round", func(m *msg.Msg) { m.Box = turned }, api.ErrBox},
		{"a Box of another kind", func(m *msg.Msg) { m.Box = m.EK }, api.ErrBox},
		{"a Box that is no term", func(m *msg.Msg) { m.Box = api.MaxTerms }, api.ErrArg},
		{"another C1", func(m *msg.Msg) { m.C1 = other.C1 }, api.ErrSeal},
		{"C1 of another number", func(m *msg.Msg) { m.C1 = unlike }, api.ErrSeal},
		{"C2 as C1", func(m *msg.Msg) { m.C1 = m.C2 }, api.ErrSeal},
		{"a C1 of another kind", func(m *msg.Msg) { m.C1 = m.E }, api.ErrSeal},
		{"a C1 that is no term", func(m *msg.Msg) { m.C1 = api.MaxTerms }, api.ErrArg},
		{"another C2", func(m *msg.Msg) { m.C2 = other.C2 }, api.ErrSeal},
		{"C1 as C2", func(m *msg.Msg) { m.C2 = m.C1 }, api.ErrSeal},
		{"a C2 of another kind", func(m *msg.Msg) { m.C2 = m.E }, api.ErrSeal},
		{"a C2 that is no term", func(m *msg.Msg) { m.C2 = api.MaxTerms }, api.ErrArg},
		{"all names of another one, but its C2", func(m *msg.Msg) { c2 := m.C2; *m = other; m.C2 = c2 }, api.ErrSeal},
	} {
		changed := m
		x.change(&changed)
		got, _ := does(t, x.why, w.l, w.opening(changed))
		is(t, x.why, got, told{err: x.err})
		changed.From = last
		got, _ = does(t, x.why+", and another number", w.l, w.opening(changed))
		is(t, x.why+", and another number", got, told{err: x.err})
	}
	for _, l := range []msg.Msg{m, other} {
		x, _ := does(t, "what was begun", w.l, w.opening(l))
		is(t, "the error of what was begun", x.err, api.OK)
	}
	// From is not said, and can be another one.
	m.From = last
	x, _ := does(t, "another number", w.l, w.opening(m))
	is(t, "the error of another number", x.err, api.OK)
}

// TestOpenWithoutRoom: where who began has put all but the hash of C2, and so knows no more than who opens.
func TestOpenWithoutRoom(t *testing.T) {
	w, m, p := begun(t)
	before := len(w.l) - 1
	is(t, "what is put last", p.Y.H, before+1)
	x, after := does(t, "what was begun", w.l[:before], w.opening(m))
	is(t, "the error", x.err, api.OK)
	is(t, "how many terms are put", len(after)-before, 1)
	// The public keys of other secrets come first, and what is said of them.
	c := w.opening(m)
	c.me = Static{Dh: w.drawn[8], Kem: w.drawn[9]}
	refused(t, "secrets whose public keys are not there", w.l, c, api.ErrBox, 11)
}

// TestOpenByAnotherEndpoint: a message opens to the one alone with whom it was begun.
func TestOpenByAnotherEndpoint(t *testing.T) {
	w, m, p := begun(t)
	for _, x := range []struct {
		why string
		me  Static
		err api.Errno
	}{
		{"who began", w.me[0], api.ErrBox},
		{"a third one", w.me[2], api.ErrBox},
		{"a third one with this one's Kem", Static{Dh: w.me[2].Dh, Kem: w.me[1].Kem}, api.ErrSeal},
		{"this one with another Kem", Static{Dh: w.me[1].Dh, Kem: w.me[2].Kem}, api.ErrBox},
		{"this one", w.me[1], api.OK},
	} {
		c := w.opening(m)
		c.me = x.me
		got, _ := does(t, x.why, w.l, c)
		is(t, "the error of "+x.why, got.err, x.err)
		is(t, "the state of "+x.why, got.opened.Y == p.Y, x.err == api.OK)
	}
}

// TestOpenWithOtherSecrets: one that is used and is another one on either side opens nothing; one of the other slot makes no difference.
func TestOpenWithOtherSecrets(t *testing.T) {
	for slot := range 2 {
		for _, turned := range []int{0, 1} {
			w := newPeople()
			c := w.beginning()
			c.m.Slot = slot
			m := w.does(t, "what is begun", c).m
			o := w.opening(m)
			o.peers[0].Psk[turned] = w.drawn[9]
			x, _ := does(t, "another secret", w.l, o)
			is(t, "what another secret opens", x.err == api.OK, turned != slot)
			is(t, "the error", x.err, map[bool]api.Errno{true: api.ErrSeal, false: api.OK}[turned == slot])
			o.peers[0].Psk = [2]int{w.psk[2][1], w.psk[2][0]}
			x, _ = does(t, "secrets the wrong way round", w.l, o)
			is(t, "secrets the wrong way round", x, told{err: api.ErrSeal})
		}
	}
}

// TestOpenOfStamps: C2 is a Text of the bytes of a number, and of these alone.
func TestOpenOfStamps(t *testing.T) {
	for stamp, digits := range stamps {
		w := newPeople()
		m := w.forged(w.beginning(), w.pub[0].Dh, w.put(samples.Text(digits)))
		x, _ := does(t, "a stamp", w.l, w.opening(m))
		is(t, "the stamp", x.opened.Stamp, stamp)
		for _, more := range []string{"\x00", "\x01", "\x80", "x", digits} {
			w := newPeople()
			m := w.forged(w.beginning(), w.pub[0].Dh, w.put(samples.Text(digits+more)))
			refused(t, "a number with more behind it", w.l, w.opening(m), api.ErrForm, 0)
		}
	}
	for _, none := range append(samples.NoNumbers(), samples.ShortNumbers()...) {
		w := newPeople()
		m := w.forged(w.beginning(), w.pub[0].Dh, w.put(samples.Text(none)))
		refused(t, "bytes that are no number", w.l, w.opening(m), api.ErrForm, 0)
	}
	for kind := term.Text; kind < term.Kinds; kind++ {
		w := newPeople()
		m := w.forged(w.beginning(), w.pub[0].Dh, kind)
		// The Text among these is one of two bytes below 128.
		refused(t, "what is no Text, or no number", w.l, w.opening(m), api.ErrForm, 0)
	}
}

// TestOpenOfWhatIsNoPublicKey: what C1 is must be a peer's Dh, and then a Pub, that shares something.
func TestOpenOfWhatIsNoPublicKey(t *testing.T) {
	for kind := term.Text; kind < term.Kinds; kind++ {
		w := newPeople()
		m := w.forged(w.beginning(), kind, w.put(samples.Text("\x05")))
		c := w.opening(m)
		refused(t, "nobody's key", w.l, c, api.ErrNone, 0)
		c.peers = append(c.peers, Peer{Pub: Static{Dh: kind}, Psk: w.psk[2]})
		want := api.ErrArg
		if kind == term.Pub {
			// Who has not that key's secret shares no such thing with it, and so C2 is sealed by another key.
			want = api.ErrSeal
		}
		x, _ := does(t, "somebody's key", w.l, c)
		is(t, "somebody's key", x, told{err: want})
	}
}

// P17.4

// TestAnswerFieldByField: from and to the edges, with unlike versions.
func TestAnswerFieldByField(t *testing.T) {
	w, m, _ := begun(t)
	o := w.does(t, "what is opened", w.opening(m)).opened
	for _, version := range []int{1, 2, 255} {
		for _, from := range []uint64{1, 2, last - 1, last} {
			for _, to := range []uint64{1, 2, last - 1, last} {
				o.Version = version
				c := answers{o: o, from: from, to: to, drawn: [2]int(w.drawn[3:5])}
				x, l := does(t, "what is answered", w.l, c)
				w := people{l: l}
				is(t, "the error", x.err, api.OK)
				is(t, "that it may be", msg.Right(x.m), true)
				is(t, "what is plain", x.m, msg.Msg{Kind: msg.Resp, From: from, To: to, E: x.m.E, Box: x.m.Box, C1: x.m.C1})
				is(t, "E", w.of(x.m.E), samples.Pub(c.drawn[0]))
				is(t, "Box", w.of(x.m.Box), samples.Box(w.of(m.EK).A, c.drawn[1]))
				is(t, "what is sealed", w.of(w.of(x.m.C1).C), samples.Text(string([]byte{byte(version)})))
				is(t, "the hash", w.of(x.session.H), samples.Hash(w.of(x.m.C1).B, x.m.C1))
				is(t, "the key to send", w.of(x.session.Send), samples.Key(w.of(x.session.Recv).A, 2))
				is(t, "the key to receive", w.of(x.session.Recv), samples.Key(w.of(x.session.Send).A, 1))
				is(t, "the version", x.session.Version, version)
			}
		}
	}
}

// TestAnswerOfVersions: the byte is the version modulo 256, whatever it is; the session has it as it is.
func TestAnswerOfVersions(t *testing.T) {
	w, m, _ := begun(t)
	o := w.does(t, "what is opened", w.opening(m)).opened
	for version, digit := range map[int]byte{0: 0, 1: 1, 127: 127, 128: 128, 255: 255, 256: 0, 257: 1, 511: 255, -1: 255, -2: 254, -255: 1, -256: 0, -257: 255, math.MinInt: 0, math.MaxInt: 255, 1 << 32: 0} {
		o.Version = version
		x, l := does(t, "what is answered", w.l, w.answering(o))
		is(t, "the error", x.err, api.OK)
		is(t, "the version", x.session.Version, version)
		is(t, "what is sealed", l[l[x.m.C1-1].C-1], samples.Text(string([]byte{digit})))
	}
}

// TestAnswerRefusesNumbers: behind all else, so that all that is put stays.
func TestAnswerRefusesNumbers(t *testing.T) {
	w, m, _ := begun(t)
	o := w.does(t, "what is opened", w.opening(m)).opened
	_, after := reckoned(w.l, w.answering(o))
	whole := len(after) - len(w.l)
	for _, none := range append(samples.Above32(), 0) {
		for _, x := range [][2]uint64{{none, 1}, {1, none}, {none, none}, {none, last}, {last, none}} {
			c := w.answering(o)
			c.from, c.to = x[0], x[1]
			refused(t, "a number that may not be", w.l, c, api.ErrForm, whole)
			c.o.EK = 0
			got, _ := does(t, "a number that may not be, and no EK", w.l, c)
			is(t, "EK goes first", got.err, api.ErrArg)
		}
	}
}

// TestAnswerRefusesWhatIsNoTerm: each alone, behind what is put ahead of its step.
func TestAnswerRefusesWhatIsNoTerm(t *testing.T) {
	w, m, _ := begun(t)
	o := w.does(t, "what is opened", w.opening(m)).opened
	for _, none := range noNames(w.l) {
		for i, x := range []struct {
			why  string
			at   func(c *answers) *int
			puts int
		}{
			{"what is drawn for E", func(c *answers) *int { return &c.drawn[0] }, 0},
			{"the hash", func(c *answers) *int { return &c.o.Y.H }, 1},
			{"E", func(c *answers) *int { return &c.o.E }, 2},
			{"the chaining key", func(c *answers) *int { return &c.o.Y.CK }, 3},
			{"the public key", func(c *answers) *int { return &c.o.Pub }, 6},
			{"EK", func(c *answers) *int { return &c.o.EK }, 10},
			{"what is drawn for the box", func(c *answers) *int { return &c.drawn[1] }, 10},
		} {
			c := w.answering(o)
			*x.at(&c) = none
			refused(t, x.why, w.l, c, api.ErrArg, x.puts)
			if i < 5 {
				c.o.EK = none
			}
			c.from, c.to = 0, 0
			refused(t, x.why+", and what is asked for later", w.l, c, api.ErrArg, x.puts)
		}
	}
	refused(t, "nothing that was opened", w.l, answers{}, api.ErrArg, 0)
	refused(t, "nothing that was opened, with draws", w.l, answers{drawn: [2]int{1, 1}}, api.ErrArg, 1)
	refused(t, "nothing that was opened, where nothing is", nil, answers{}, api.ErrArg, 0)
}

// TestAnswerOfOtherKinds: E and Pub are Pubs, EK is a Kpub; all else may be any term, and the key and its number anything.
func TestAnswerOfOtherKinds(t *testing.T) {
	w, m, _ := begun(t)
	o := w.does(t, "what is opened", w.opening(m)).opened
	tries := func(why string, kind, needs int, at func(c *answers) *int) {
		t.Helper()
		c := w.answering(o)
		*at(&c) = kind
		x, _ := does(t, why, w.l, c)
		is(t, why, x.err, map[bool]api.Errno{true: api.OK, false: api.ErrArg}[needs == 0 || kind == needs])
	}
	for kind := term.Text; kind < term.Kinds; kind++ {
		tries("E", kind, term.Pub, func(c *answers) *int { return &c.o.E })
		tries("the public key", kind, term.Pub, func(c *answers) *int { return &c.o.Pub })
		tries("EK", kind, term.Kpub, func(c *answers) *int { return &c.o.EK })
		tries("the chaining key", kind, 0, func(c *answers) *int { return &c.o.Y.CK })
		tries("the hash", kind, 0, func(c *answers) *int { return &c.o.Y.H })
		tries("what is drawn for E", kind, 0, func(c *answers) *int { return &c.drawn[0] })
		tries("what is drawn for the box", kind, 0, func(c *answers) *int { return &c.drawn[1] })
	}
	want, after := reckoned(w.l, w.answering(o))
	for _, any := range noNames(w.l) {
		c := w.answering(o)
		c.o.Peer, c.o.Stamp, c.o.Y.K, c.o.Y.N = any, uint64(any), any, uint64(any)
		asked(t, "what is not asked for", w.l, len(after), c, want, after)
	}
}

// P17.5

// TestFinishOfWhatWasAnswered: the same session, with its keys the other way round.
func TestFinishOfWhatWasAnswered(t *testing.T) {
	w, p, m, theirs := answered(t)
	x, after := does(t, "what is finished", w.l, finishes{me: w.me[0], p: p, m: m})
	is(t, "the session", x, told{session: Session{H: theirs.H, Send: theirs.Recv, Recv: theirs.Send, Version: 2}})
	is(t, "how many terms are put", len(after)-len(w.l), 0)
	// Neither the secret of Kem, nor the numbers, nor the version that both could have had, are asked for.
	for _, any := range noNames(w.l) {
		m.From, m.To = last, 1
		c := finishes{me: Static{Dh: w.me[0].Dh, Kem: any}, p: p, m: m}
		c.p.Y.K, c.p.Y.N = any, uint64(any)
		asked(t, "what is not asked for", w.l, len(w.l), c, x, w.l)
	}
}

// TestFinishWithoutRoom: where who answered has put all but the hash of C1, and what both keys come of.
func TestFinishWithoutRoom(t *testing.T) {
	w, p, m, theirs := answered(t)
	before := len(w.l) - 5
	is(t, "the first one of what is put last", theirs.H, before+1)
	for there := before; there < len(w.l); there++ {
		x, after := does(t, "what was answered", w.l[:there], finishes{me: w.me[0], p: p, m: m})
		is(t, "the session", x, told{session: Session{H: theirs.H, Send: theirs.Recv, Recv: theirs.Send, Version: 2}})
		is(t, "how many terms are put", len(after)-there, len(w.l)-there)
	}
}

// TestFinishRefusesOtherMessages: ahead of all else, with nothing put.
func TestFinishRefusesOtherMessages(t *testing.T) {
	w, p, m, _ := answered(t)
	l := append(notRight(m), msg.Msg{}, msg.Msg{Kind: msg.Data, To: 1, C1: 1}, msg.Msg{Kind: msg.Reject, To: 1, Code: 1}, msg.Msg{Kind: msg.Init, From: 1, Offer: "\x01", E: 1, EK: 1, Box: 1, C1: 1, C2: 1})
	for _, x := range []func(m *msg.Msg){
		func(m *msg.Msg) { m.Offer = "\x01" }, func(m *msg.Msg) { m.Slot = 1 }, func(m *msg.Msg) { m.EK = 1 }, func(m *msg.Msg) { m.C2 = 1 },
	} {
		other := m
		x(&other)
		l = append(l, other)
	}
	for _, other := range l {
		if msg.Right(other) && other.Kind == msg.Resp {
			t.Fatalf("%+v may be", other)
		}
		refused(t, "another message", w.l, finishes{me: w.me[0], p: p, m: other}, api.ErrForm, 0)
		refused(t, "another message, and nothing else", w.l, finishes{m: other}, api.ErrForm, 0)
	}
}

// TestFinishRefusesWhatIsNoTerm: each alone, behind what is put ahead of its step.
func TestFinishRefusesWhatIsNoTerm(t *testing.T) {
	w, p, m, _ := answered(t)
	for _, none := range noNames(w.l) {
		for _, x := range []struct {
			why string
			at  func(c *finishes) *int
		}{
			{"the hash", func(c *finishes) *int { return &c.p.Y.H }},
			{"the chaining key", func(c *finishes) *int { return &c.p.Y.CK }},
			{"what was drawn for E", func(c *finishes) *int { return &c.p.E }},
			{"what was drawn for EK", func(c *finishes) *int { return &c.p.EK }},
			{"my Dh", func(c *finishes) *int { return &c.me.Dh }},
		} {
			c := finishes{me: w.me[0], p: p, m: m}
			*x.at(&c) = none
			refused(t, x.why, w.l, c, api.ErrArg, 0)
		}
	}
	refused(t, "nothing that was begun", w.l, finishes{m: m}, api.ErrArg, 0)
	refused(t, "nothing that was begun, where nothing is", nil, finishes{m: m}, api.ErrArg, 0)
}

// TestFinishRefusesWhatIsOtherInBetween: whatever is another one on its way, or kept by another one, nothing is opened.
func TestFinishRefusesWhatIsOtherInBetween(t *testing.T) {
	w, p, m, _ := answered(t)
	c := w.beginning()
	c.drawn = [3]int(w.drawn[5:8])
	begun := w.does(t, "another one", c)
	o := w.does(t, "what is opened of it", w.opening(begun.m)).opened
	a := w.answering(o)
	a.drawn = [2]int(w.drawn[8:10])
	other := w.does(t, "its answer", a).m
	fresh := w.put(samples.Box(p.EK, w.drawn[9]))
	for _, x := range []struct {
		why    string
		change func(c *finishes)
		err    api.Errno
	}{
		{"another E", func(c *finishes) { c.m.E = other.E }, api.ErrSeal},
		{"an E of another kind", func(c *finishes) { c.m.E = term.Nonce }, api.ErrArg},
		{"an E that is no term", func(c *finishes) { c.m.E = api.MaxTerms }, api.ErrArg},
		{"another Box", func(c *finishes) { c.m.Box = other.Box }, api.ErrBox},
		{"a Box of what was not said", func(c *finishes) { c.m.Box = fresh }, api.ErrSeal},
		{"a Box of another kind", func(c *finishes) { c.m.Box = term.Kem }, api.ErrBox},
		{"a Box that is no term", func(c *finishes) { c.m.Box = api.MaxTerms }, api.ErrArg},
		{"another C1", func(c *finishes) { c.m.C1 = other.C1 }, api.ErrSeal},
		{"a C1 of another kind", func(c *finishes) { c.m.C1 = term.Text }, api.ErrSeal},
		{"a C1 that is no term", func(c *finishes) { c.m.C1 = api.MaxTerms }, api.ErrArg},
		{"the answer to another one", func(c *finishes) { c.m = other }, api.ErrBox},
		{"another one that was begun", func(c *finishes) { c.p = begun.pending }, api.ErrBox},
		{"another state", func(c *finishes) { c.p.Y = begun.pending.Y }, api.ErrSeal},
		{"another hash", func(c *finishes) { c.p.Y.H = begun.pending.Y.H }, api.ErrSeal},
		{"another chaining key", func(c *finishes) { c.p.Y.CK = begun.pending.Y.CK }, api.ErrSeal},
		{"another one's E", func(c *finishes) { c.p.E = begun.pending.E }, api.ErrSeal},
		{"another one's EK", func(c *finishes) { c.p.EK = begun.pending.EK }, api.ErrBox},
		{"another endpoint", func(c *finishes) { c.me = w.me[1] }, api.ErrSeal},
	} {
		c := finishes{me: w.me[0], p: p, m: m}
		x.change(&c)
		got, _ := does(t, x.why, w.l, c)
		is(t, x.why, got, told{err: x.err})
	}
	got, _ := does(t, "the other one's answer", w.l, finishes{me: w.me[0], p: begun.pending, m: other})
	is(t, "the error of the other one", got.err, api.OK)
}

// TestFinishOfVersions: C1 is a Text of one byte, that is in the offer; what the offer is else is not asked for.
func TestFinishOfVersions(t *testing.T) {
	for _, x := range []struct {
		offer, sealed string
		err           api.Errno
	}{
		{"\x03\x02", "\x02", api.OK}, {"\x03\x02", "\x03", api.OK}, {"\xff", "\xff", api.OK}, {"\x08\x07\x06\x05\x04\x03\x02\x01", "\x01", api.OK},
		{"\x03\x02", "\x01", api.ErrVersion}, {"\x03\x02", "\x04", api.ErrVersion}, {"\x03\x02", "\x00", api.ErrVersion}, {"\x03\x02", "\xff", api.ErrVersion}, {"\xff", "\x7f", api.ErrVersion},
		{"\x03\x02", "", api.ErrForm}, {"\x03\x02", "\x03\x02", api.ErrForm}, {"\x03\x02", "\x02\x02", api.ErrForm}, {"\x03\x02", "\x00\x02", api.ErrForm}, {"\x03\x02", "\x01\x01", api.ErrForm}, {"\x03\x02", strings.Repeat("\x02", 1000), api.ErrForm},
		{"", "\x02", api.ErrVersion}, {"", "", api.ErrForm}, {"\x01\x02\x02", "\x02", api.OK}, {"\x00", "\x00", api.OK}, {strings.Repeat("x", 2000) + "\x02", "\x02", api.OK}, {"\u00e9", "\xe9", api.ErrVersion}, {"\u00e9", "\xc3", api.OK},
	} {
		w, m, p := begun(t)
		o, l := reckoned(w.l, w.opening(m))
		w.l = l
		m = w.forgedAnswer(w.answering(o.opened), w.put(samples.Text(x.sealed)))
		p.Offer = x.offer
		got, after := does(t, "a version", w.l, finishes{me: w.me[0], p: p, m: m})
		is(t, "the error", got.err, x.err)
		is(t, "how many terms are put", len(after)-len(w.l), 0)
		if x.err == api.OK {
			is(t, "the version", got.session.Version, int(x.sealed[0]))
		}
	}
	for kind := term.Nonce; kind < term.Kinds; kind++ {
		w, m, p := begun(t)
		o, l := reckoned(w.l, w.opening(m))
		w.l = l
		m = w.forgedAnswer(w.answering(o.opened), kind)
		refused(t, "what is no Text", w.l, finishes{me: w.me[0], p: p, m: m}, api.ErrForm, 0)
	}
}

// P17.6

// TestTwoEndpointsHaveOneSession: each of three with each other one, with each slot, and all offers of three versions; the version is the greatest one that both have, and where there is none, nothing is opened.
func TestTwoEndpointsHaveOneSession(t *testing.T) {
	var offers []string
	samples.Texts("\x03\x02\x01", 3, func(s string) {
		if isOffer(s) {
			offers = append(offers, s)
		}
	})
	is(t, "how many offers there are", len(offers), 7)
	for from := range 3 {
		for to := range 3 {
			for slot := range 2 {
				for _, mine := range offers {
					for _, theirs := range offers {
						if from != to {
							wholeHandshake(t, from, to, slot, mine, theirs)
						}
					}
				}
			}
		}
	}
}

// wholeHandshake looks whether what one begins with the other one is opened, answered and finished as it was meant.
func wholeHandshake(t *testing.T, from, to, slot int, mine, theirs string) {
	t.Helper()
	w := newPeople()
	s := samples.Store(len(w.l)+100, w.l...)
	best := 0
	for version := 1; version <= 3; version++ {
		if strings.Contains(mine, string(rune(version))) && strings.Contains(theirs, string(rune(version))) {
			best = version
		}
	}
	b := begins{me: w.me[from], p: w.peer(from, to), m: msg.Msg{From: 11, Offer: mine, Slot: slot}, stamp: 77, drawn: [3]int(w.drawn[:3])}.ask(s)
	is(t, "Begin's error", b.err, api.OK)
	o := opens{me: w.me[to], peers: w.peers(to), offer: theirs, m: b.m}.ask(s)
	if best == 0 {
		is(t, "no version in common", o, told{err: api.ErrVersion})
		return
	}
	is(t, "Open's error", o.err, api.OK)
	is(t, "the peer", w.peers(to)[o.opened.Peer], w.peer(to, from))
	is(t, "the version", o.opened.Version, best)
	is(t, "the stamp", o.opened.Stamp, 77)
	is(t, "the state", o.opened.Y, b.pending.Y)
	a := answers{o: o.opened, from: 12, to: 11, drawn: [2]int(w.drawn[3:5])}.ask(s)
	is(t, "Answer's error", a.err, api.OK)
	f := finishes{me: w.me[from], p: b.pending, m: a.m}.ask(s)
	is(t, "what is finished", f, told{session: Session{H: a.session.H, Send: a.session.Recv, Recv: a.session.Send, Version: best}})
	is(t, "both keys", a.session.Send != a.session.Recv, true)
}

// TestUnlikeHandshakesHaveUnlikeKeys: where one of what is drawn, or of what is told, is another one, so are the hash and both keys.
func TestUnlikeHandshakesHaveUnlikeKeys(t *testing.T) {
	seen := map[int]string{}
	w := newPeople()
	for _, x := range []struct {
		why    string
		change func(b *begins, drawn *[2]int)
	}{
		{"nothing", func(b *begins, drawn *[2]int) {}},
		{"E's draw", func(b *begins, drawn *[2]int) { b.drawn[0] = w.drawn[8] }},
		{"EK's draw", func(b *begins, drawn *[2]int) { b.drawn[1] = w.drawn[8] }},
		{"the box's draw", func(b *begins, drawn *[2]int) { b.drawn[2] = w.drawn[8] }},
		{"the answer's E's draw", func(b *begins, drawn *[2]int) { drawn[0] = w.drawn[8] }},
		{"the answer's box's draw", func(b *begins, drawn *[2]int) { drawn[1] = w.drawn[8] }},
	} {
		for slot := range 2 {
			b, drawn := w.beginning(), [2]int(w.drawn[3:5])
			b.m.Slot = slot
			x.change(&b, &drawn)
			begun := w.does(t, x.why, b)
			o := w.does(t, x.why, w.opening(begun.m)).opened
			a := w.answering(o)
			a.drawn = drawn
			session := w.does(t, x.why, a).session
			for _, name := range []int{session.H, session.Send, session.Recv} {
				if other, is := seen[name]; is {
					t.Errorf("%s: the term %d was there with another of %s", x.why, name, other)
				}
				seen[name] = x.why
			}
		}
	}
}

// TestSecretsOfASession: who hears all can't make its keys, whatever is broken; who has both Psk, and breaks all, can.
func TestSecretsOfASession(t *testing.T) {
	w, m, _ := begun(t)
	o := w.does(t, "what is opened", w.opening(m)).opened
	x := w.does(t, "what is answered", w.answering(o))
	s := samples.Store(len(w.l), w.l...)
	hears := append(msg.Names(m), msg.Names(x.m)...)
	for _, keys := range w.pub {
		hears = append(hears, keys.Dh, keys.Kem)
	}
	for _, broken := range []know.Flags{{}, {Dh: true}, {Kem: true}, {Dh: true, Kem: true}} {
		for _, key := range []int{x.session.Send, x.session.Recv} {
			can, err := know.Can(s, hears, broken, key)
			is(t, "know.Can's error", err, api.OK)
			is(t, "that a key can be made", can, false)
			can, _ = know.Can(s, append(hears, w.psk[2][0]), broken, key)
			is(t, "that a key can be made with the Psk", can, broken.Dh && broken.Kem)
		}
	}
}

// TestSameInTwoStores: two stores alike tell the same of many calls, whatever they are asked with, and what is reckoned.
func TestSameInTwoStores(t *testing.T) {
	for seed := range int64(400) {
		r := rand.New(rand.NewSource(seed))
		w := newPeople()
		b, l := reckoned(w.l, w.beginning())
		o, l := reckoned(l, w.opening(b.m))
		a, l := reckoned(l, w.answering(o.opened))
		one, other := samples.Store(len(l)+r.Intn(60), l...), samples.Store(len(l)+500, l...)
		name := func(right int) int {
			switch r.Intn(12) {
			case 0:
				return 1 + r.Intn(len(l)+3)
			case 1:
				return r.Intn(5) - 2
			}
			return right
		}
		for range 20 {
			var c call
			switch r.Intn(4) {
			case 0:
				x := w.beginning()
				x.me.Dh, x.p.Pub, x.p.Psk[0] = name(x.me.Dh), Static{name(x.p.Pub.Dh), name(x.p.Pub.Kem)}, name(x.p.Psk[0])
				x.m.Slot, x.stamp, x.drawn = r.Intn(3), r.Uint64()>>r.Intn(64), [3]int{name(x.drawn[0]), name(x.drawn[1]), name(x.drawn[2])}
				c = x
			case 1:
				x := w.opening(b.m)
				x.me, x.m.E, x.m.EK, x.m.Box = Static{name(x.me.Dh), name(x.me.Kem)}, name(x.m.E), name(x.m.EK), name(x.m.Box)
				x.m.C1, x.m.C2, x.peers[0].Psk[0] = name(x.m.C1), name(x.m.C2), name(x.peers[0].Psk[0])
				c = x
			case 2:
				x := w.answering(o.opened)
				x.o.Y.CK, x.o.Y.H, x.o.E, x.o.EK, x.o.Pub = name(x.o.Y.CK), name(x.o.Y.H), name(x.o.E), name(x.o.EK), name(x.o.Pub)
				x.drawn, x.o.Version = [2]int{name(x.drawn[0]), name(x.drawn[1])}, r.Intn(1000)-500
				c = x
			default:
				x := finishes{me: w.me[0], p: b.pending, m: a.m}
				x.p.Y.CK, x.p.Y.H, x.p.E, x.p.EK = name(x.p.Y.CK), name(x.p.Y.H), name(x.p.E), name(x.p.EK)
				x.me.Dh, x.m.E, x.m.Box, x.m.C1 = name(x.me.Dh), name(x.m.E), name(x.m.Box), name(x.m.C1)
				c = x
			}
			want, after := reckoned(samples.All(other), c)
			is(t, "what is told in the roomy store", c.ask(other), want)
			if got := samples.All(other); !slices.Equal(got, after) {
				t.Errorf("the roomy store has %+v, not %+v", got, after)
			}
			want, after = reckoned(samples.All(one), c)
			got := c.ask(one)
			if got.err == api.ErrBig {
				want, after = got, after[:one.Len()]
				is(t, "what is told beside the error", got, told{err: api.ErrBig})
			}
			is(t, "what is told in the other store", got, want)
			if got := samples.All(one); !slices.Equal(got, after) {
				t.Errorf("the other store has %+v, not %+v", got, after)
			}
		}
	}
}

// TestPeersAreNotKept: neither what they were when they were handed in, nor what stands behind them, is changed, and what becomes of them makes no difference for what was told.
func TestPeersAreNotKept(t *testing.T) {
	w, m, p := begun(t)
	room := append(w.peers(1), w.peer(1, 0), w.peer(1, 2), Peer{Psk: [2]int{-1, -2}})
	was := slices.Clone(room)
	s := samples.Store(len(w.l)+100, w.l...)
	o, err := Open(s, w.me[1], room[:2], "\x02\x01", m)
	if err != api.OK || !slices.Equal(room, was) {
		t.Fatalf("the peers are %+v, not %+v, with %v", room, was, err)
	}
	for i := range room {
		room[i] = Peer{}
	}
	is(t, "what is opened", o, Opened{Y: p.Y, Version: 2, Stamp: 300, E: m.E, EK: m.EK, Pub: w.pub[0].Dh})
	answer, theirs, err := Answer(s, o, 9, 5, [2]int(w.drawn[3:5]))
	is(t, "Answer's error", err, api.OK)
	mine, err := Finish(s, w.me[0], p, answer)
	is(t, "Finish's error", err, api.OK)
	is(t, "the hash", mine.H, theirs.H)
}

// TestNoOtherPanicIsTaken: what ends steps is an error, and no fault of the program is taken for one.
func TestNoOtherPanicIsTaken(t *testing.T) {
	defer func() {
		is(t, "what is recovered", recover(), any("a fault"))
	}()
	inTurn(func() { panic("a fault") })
	t.Error("the panic is lost")
}
