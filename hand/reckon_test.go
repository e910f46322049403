package hand

import (
	"math"
	"slices"

	"sough/api"
	"sough/msg"
	"sough/samples"
	"sough/sym"
	"sough/term"
)

// reckoning reckons by the chapters' words, on terms alone, what a handshake comes to: the terms that there are, in order; the state of all that was said; and the first error, behind which nothing is reckoned any more.
type reckoning struct {
	l   []term.Term
	y   sym.Sym
	err api.Errno
}

// need is an error, unless something is so.
func (r *reckoning) need(so bool, err api.Errno) {
	if r.err == api.OK && !so {
		r.err = err
	}
}

// is tells whether there is a term of the name.
func (r *reckoning) is(name int) bool { return name >= 1 && name <= len(r.l) }

// of is the term of a name, the zero one of none.
func (r *reckoning) of(name int) term.Term {
	if !r.is(name) {
		return term.Term{}
	}
	return r.l[name-1]
}

func (r *reckoning) put(x term.Term) int {
	for _, part := range term.Parts(x) {
		r.need(r.is(part), api.ErrArg)
	}
	r.need(len(x.S) <= api.MaxText, api.ErrArg)
	if r.err != api.OK {
		return 0
	}
	var name int
	r.l, name = samples.With(r.l, x)
	return name
}

func (r *reckoning) hash(x int) { r.y.H = r.put(samples.Hash(r.y.H, x)) }

func (r *reckoning) keys(x int) (int, int) {
	both := r.put(samples.Hash(r.y.CK, x))
	first := r.put(samples.Key(both, 1))
	return first, r.put(samples.Key(both, 2))
}

func (r *reckoning) mix(x int) {
	r.y.CK, r.y.K = r.keys(x)
	r.y.N = 0
}

// share mixes in what two share.
func (r *reckoning) share(secret, public int) {
	r.need(r.is(secret), api.ErrArg)
	r.need(r.of(public).Kind == term.Pub, api.ErrArg)
	other := r.of(public).A
	r.mix(r.put(samples.Share(min(secret, other), max(secret, other))))
}

// wrap hashes a box, and mixes in its secret.
func (r *reckoning) wrap(public, drawn int) int {
	r.need(r.of(public).Kind == term.Kpub, api.ErrArg)
	r.need(r.is(drawn), api.ErrArg)
	secret := r.of(public).A
	box := r.put(samples.Box(secret, drawn))
	inside := r.put(samples.Kem(secret, drawn))
	r.hash(box)
	r.mix(inside)
	return box
}

func (r *reckoning) unwrap(secret, box int) {
	r.hash(box)
	r.need(r.is(secret), api.ErrArg)
	drawn := r.of(box).B
	r.need(r.of(box) == samples.Box(secret, drawn), api.ErrBox)
	r.mix(r.put(samples.Kem(secret, drawn)))
}

func (r *reckoning) seal(plain int) int {
	sealed := r.put(samples.Seal(r.y.K, r.y.N, r.y.H, plain))
	r.y.N++
	r.hash(sealed)
	return sealed
}

func (r *reckoning) open(sealed int) int {
	r.need(r.is(sealed), api.ErrArg)
	plain := r.of(sealed).C
	r.need(r.of(sealed) == samples.Seal(r.y.K, r.y.N, r.y.H, plain), api.ErrSeal)
	r.y.N++
	r.hash(sealed)
	return plain
}

// first is what both say first.
func (r *reckoning) first(offer, slot string, keys Static) {
	r.y.CK = r.put(samples.Text("sough"))
	r.y.H = r.y.CK
	r.hash(r.put(samples.Text(offer)))
	r.hash(r.put(samples.Text(slot)))
	r.hash(keys.Dh)
	r.hash(keys.Kem)
}

func (r *reckoning) publics(me Static) Static {
	dh := r.put(samples.Pub(me.Dh))
	return Static{Dh: dh, Kem: r.put(samples.Kpub(me.Kem))}
}

// begins is what Begin is asked with.
type begins struct {
	me    Static
	p     Peer
	m     msg.Msg
	stamp uint64
	drawn [3]int
}

// begin is what b comes to, if who begins seals its public key, and its stamp.
func (r *reckoning) begin(b begins) (msg.Msg, Pending) {
	return r.beginWith(b, func() int { return r.put(samples.Pub(b.me.Dh)) }, func() int { return r.put(samples.Text(bytesOf(b.stamp))) })
}

// beginWith is what b comes to, if who begins seals something of its own choice.
func (r *reckoning) beginWith(b begins, first, second func() int) (msg.Msg, Pending) {
	r.need(b.m.Slot == 0 || b.m.Slot == 1, api.ErrArg)
	if r.err != api.OK {
		return msg.Msg{}, Pending{}
	}
	m := msg.Msg{Kind: msg.Init, From: b.m.From, Offer: b.m.Offer, Slot: b.m.Slot}
	r.first(m.Offer, [2]string{"0", "1"}[m.Slot], b.p.Pub)
	m.E = r.put(samples.Pub(b.drawn[0]))
	r.hash(m.E)
	m.EK = r.put(samples.Kpub(b.drawn[1]))
	r.hash(m.EK)
	r.share(b.drawn[0], b.p.Pub.Dh)
	m.Box = r.wrap(b.p.Pub.Kem, b.drawn[2])
	m.C1 = r.seal(first())
	r.share(b.me.Dh, b.p.Pub.Dh)
	r.mix(b.p.Psk[m.Slot])
	m.C2 = r.seal(second())
	r.need(msg.Right(m), api.ErrForm)
	return m, Pending{Y: r.y, E: b.drawn[0], EK: b.drawn[1], Offer: m.Offer}
}

// opens is what Open is asked with.
type opens struct {
	me    Static
	peers []Peer
	offer string
	m     msg.Msg
}

func (r *reckoning) opened(o opens) Opened {
	r.need(o.m.Kind == msg.Init && msg.Right(o.m), api.ErrForm)
	x := Opened{E: o.m.E, EK: o.m.EK}
	x.Version = r.best(o.offer, o.m.Offer)
	r.first(o.m.Offer, [2]string{"0", "1"}[o.m.Slot&1], r.publics(o.me))
	r.hash(o.m.E)
	r.hash(o.m.EK)
	r.share(o.me.Dh, o.m.E)
	r.unwrap(o.me.Kem, o.m.Box)
	x.Pub = r.open(o.m.C1)
	for x.Peer = 0; x.Peer < len(o.peers) && o.peers[x.Peer].Pub.Dh != x.Pub; {
		x.Peer++
	}
	r.need(x.Peer < len(o.peers), api.ErrNone)
	r.share(o.me.Dh, x.Pub)
	if r.err != api.OK {
		return Opened{}
	}
	r.mix(o.peers[x.Peer].Psk[o.m.Slot])
	stamp := r.of(r.open(o.m.C2))
	r.need(stamp.Kind == term.Text, api.ErrForm)
	x.Stamp = r.number(stamp.S)
	x.Y = r.y
	return x
}

// best is the greatest version that both offers have.
func (r *reckoning) best(mine, theirs string) int {
	r.need(isOffer(mine) && isOffer(theirs), api.ErrForm)
	best := 0
	for _, x := range []byte(mine) {
		if slices.Contains([]byte(theirs), x) {
			best = max(best, int(x))
		}
	}
	r.need(best > 0, api.ErrVersion)
	return best
}

// isOffer tells of a text whether it is 1 to 8 versions that fall.
func isOffer(s string) bool {
	for i := 1; i < len(s); i++ {
		if s[i] >= s[i-1] {
			return false
		}
	}
	return len(s) >= 1 && len(s) <= 8 && s[len(s)-1] > 0
}

// bytesOf are a number's bytes: its digits to the base 128, each but the last one with 128 added to it.
func bytesOf(n uint64) string {
	s := string([]byte{byte(n % 128)})
	for n /= 128; n > 0; n /= 128 {
		s = string([]byte{byte(n%128) + 128}) + s
	}
	return s
}

// number is the one whose bytes just these are.
func (r *reckoning) number(s string) uint64 {
	n := uint64(0)
	for i := range len(s) {
		if n > math.MaxUint64/128 {
			break
		}
		n = n*128 + uint64(s[i]%128)
	}
	r.need(bytesOf(n) == s, api.ErrForm)
	return n
}

// answers is what Answer is asked with.
type answers struct {
	o        Opened
	from, to uint64
	drawn    [2]int
}

// answer is what a comes to, if who answers seals its version.
func (r *reckoning) answer(a answers) (msg.Msg, Session) {
	// What is below 0 has the byte that it and 256 times anything have.
	version := ((a.o.Version % 256) + 256) % 256
	return r.answerWith(a, func() int { return r.put(samples.Text(string([]byte{byte(version)}))) })
}

// answerWith is what a comes to, if who answers seals something of its own choice.
func (r *reckoning) answerWith(a answers, version func() int) (msg.Msg, Session) {
	r.y = a.o.Y
	m := msg.Msg{Kind: msg.Resp, From: a.from, To: a.to}
	m.E = r.put(samples.Pub(a.drawn[0]))
	r.hash(m.E)
	r.share(a.drawn[0], a.o.E)
	r.share(a.drawn[0], a.o.Pub)
	m.Box = r.wrap(a.o.EK, a.drawn[1])
	m.C1 = r.seal(version())
	first, second := r.keys(r.put(samples.Text("")))
	r.need(msg.Right(m), api.ErrForm)
	return m, Session{H: r.y.H, Send: second, Recv: first, Version: a.o.Version}
}

// finishes is what Finish is asked with.
type finishes struct {
	me Static
	p  Pending
	m  msg.Msg
}

func (r *reckoning) finish(f finishes) Session {
	r.need(f.m.Kind == msg.Resp && msg.Right(f.m), api.ErrForm)
	r.y = f.p.Y
	r.hash(f.m.E)
	r.share(f.p.E, f.m.E)
	r.share(f.me.Dh, f.m.E)
	r.unwrap(f.p.EK, f.m.Box)
	version := r.of(r.open(f.m.C1))
	r.need(version.Kind == term.Text && len(version.S) == 1, api.ErrForm)
	if r.err != api.OK {
		return Session{}
	}
	r.need(slices.Contains([]byte(f.p.Offer), version.S[0]), api.ErrVersion)
	first, second := r.keys(r.put(samples.Text("")))
	return Session{H: r.y.H, Send: first, Recv: second, Version: int(version.S[0])}
}
