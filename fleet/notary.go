package fleet

import (
	"bytes"
	"slices"

	"sheaves/api"
	"sheaves/seal"
	"sheaves/wire"
)

// A notary knows who has signed what, and that the bad node has signed all.
type notary struct {
	rogue int
	signs []api.Sign
}

// sign what goes out with a message: an offer and a vote are signed by who
// sends them.
func (k *notary) sign(m api.Message) {
	switch m.Kind {
	case api.Offer:
		if slot, e := slotOf(m.Header); e == api.OK {
			k.add(m.From, slot)
		}
	case api.Vote:
		k.add(m.From, m.Slot)
	}
}

// add a sign. One that is there is looked for first, as an offer goes out to
// many, and all signs are made anew with each that is added.
func (k *notary) add(node int, slot api.Slot) {
	same := func(s api.Sign) bool { return s.Node == node && sameSlot(s.Slot, slot) }
	if slices.ContainsFunc(k.signs, same) {
		return
	}
	signs, e := seal.Add(k.signs, api.Sign{Node: node, Slot: slot})
	if e == api.OK {
		k.signs = signs
	}
}

func (k notary) signed(node int, slot api.Slot) bool {
	ok, e := seal.Signed(k.signs, k.rogue, api.Sign{Node: node, Slot: slot})
	return e == api.OK && ok
}

func (k notary) proven(c api.Cert) bool {
	return seal.Proven(k.signs, k.rogue, c) == api.OK
}

// slotOf a header: what its author and its voters sign.
func slotOf(h api.Header) (api.Slot, api.Errno) {
	digest, e := wire.HeaderDigest(h)
	if e != api.OK {
		return api.Slot{}, e
	}
	return api.Slot{Author: h.Author, Round: h.Round, Digest: digest}, api.OK
}

func sameSlot(a, b api.Slot) bool {
	return a.Author == b.Author && a.Round == b.Round && bytes.Equal(a.Digest, b.Digest)
}
