package hand

import (
	"strconv"

	"sough/api"
	"sough/dh"
	"sough/kem"
	"sough/sym"
	"sough/term"
)

// name is what every handshake begins with.
const name = "sough"

// inTurn does steps one by one, up to the first error, that ends them.
func inTurn(steps ...func()) (err api.Errno) {
	defer func() {
		switch x := recover().(type) {
		case nil:
		case api.Errno:
			err = x
		default:
			panic(x)
		}
	}()
	for _, step := range steps {
		step()
	}
	return api.OK
}

// must ends the steps, if there is an error.
func must(err api.Errno) {
	if err != api.OK {
		panic(err)
	}
}

// got is what a call answers, if there is no error beside it.
func got[T any](x T, err api.Errno) T {
	must(err)
	return x
}

// talk is one side of a handshake, that goes on step by step: the state of all that was said, in a store.
type talk struct {
	store *term.Store
	state sym.Sym
}

// sayFirst says what both say first; the keys are those of who answers.
func (k *talk) sayFirst(offer string, slot int, keys Static) {
	k.state = got(sym.Begin(k.store, name))
	k.hash(k.text(offer))
	k.hash(k.text(strconv.Itoa(slot)))
	k.hash(keys.Dh)
	k.hash(keys.Kem)
}

func (k *talk) hash(x int) { k.state = got(k.state.Hash(k.store, x)) }

// say is what is said.
func (k *talk) say(x int) int {
	k.hash(x)
	return x
}

func (k *talk) mix(x int) { k.state = got(k.state.Mix(k.store, x)) }

// mixShared mixes in what a secret and a public key share.
func (k *talk) mixShared(secret, public int) { k.mix(got(dh.Agree(k.store, secret, public))) }

// wrap says a box, and mixes in the secret that is in it.
func (k *talk) wrap(public, drawn int) int {
	box, secret, err := kem.Wrap(k.store, public, drawn)
	must(err)
	k.hash(box)
	k.mix(secret)
	return box
}

// unwrap goes on as wrap did, by the secret that opens the box.
func (k *talk) unwrap(secret, box int) {
	k.hash(box)
	k.mix(got(kem.Open(k.store, secret, box)))
}

func (k *talk) seal(plain int) int {
	state, sealed, err := k.state.Seal(k.store, plain)
	must(err)
	k.state = state
	return sealed
}

func (k *talk) open(sealed int) int {
	state, plain, err := k.state.Open(k.store, sealed)
	must(err)
	k.state = state
	return plain
}

// openText is the text that is sealed.
func (k *talk) openText(sealed int) string {
	x, _ := k.store.Get(k.open(sealed))
	if x.Kind != term.Text {
		panic(api.ErrForm)
	}
	return x.S
}

// split are the keys at the end: the first one is that by which who began sends.
func (k *talk) split() (int, int) {
	first, second, err := k.state.Split(k.store)
	must(err)
	return first, second
}

// text is the name of a text.
func (k *talk) text(s string) int { return got(k.store.Put(term.Term{Kind: term.Text, S: s})) }
