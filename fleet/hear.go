package fleet

import (
	"cmp"
	"slices"

	"sheaves/api"
	"sheaves/ballot"
)

// mostTold: so many certificates answer a want.
const mostTold = 8

// hear a message that came.
func (n *node) hear(m api.Message, k notary) {
	switch m.Kind {
	case api.Bundle:
		n.hearBundle(m.Batch)
	case api.Offer:
		n.hearOffer(m.Header, k)
	case api.Vote:
		n.hearVote(m.From, m.Slot, k)
	case api.Proof:
		n.hearProof(m.Cert, k)
	case api.Want:
		n.hearWant(m.From, m.Round)
	}
}

func (n *node) hearBundle(b api.Batch) {
	if s, ok := n.takes(b); ok && n.write(bundle(b)) {
		n.sheaves = append(n.sheaves, s)
	}
}

// hearOffer: a vote is on the tape ahead of being told, so that no crash lets
// the node vote for another header of that author and round.
func (n *node) hearOffer(h api.Header, k notary) {
	if h.Author == n.number || !n.knows(h) || !offered(h, k) {
		return
	}
	table, slot, e := ballot.Cast(n.table, h)
	if e != api.OK {
		return
	}
	isNew := len(table) > len(n.table)
	if isNew && !n.write(vote(slot)) {
		return
	}
	n.table = table
	n.send(h.Author, vote(slot))
}

// knows: is all there that a header stands on?
func (n *node) knows(h api.Header) bool {
	if slices.ContainsFunc(h.Batches, n.lacks) {
		return false
	}
	missed, e := n.dag.Missing(h)
	return e == api.OK && len(missed) == 0
}

// offered: has the author of a header signed it?
func offered(h api.Header, k notary) bool {
	slot, e := slotOf(h)
	return e == api.OK && k.signed(h.Author, slot)
}

func (n *node) hearVote(from int, s api.Slot, k notary) {
	if !sameSlot(s, n.slot) || n.dag.Has(s.Author, s.Round) || n.hasVoter(from) || !k.signed(from, s) {
		return
	}
	n.voters = append(n.voters, from)
	if len(n.voters) < api.Quorum {
		return
	}
	c := api.Cert{Header: n.own, Voters: slices.Sorted(slices.Values(n.voters))}
	if n.hearProof(c, k) {
		n.sendAll(proof(c))
	}
}

// hearProof: does the certificate go in?
func (n *node) hearProof(c api.Cert, k notary) bool {
	if n.dag.Takes(c) != api.OK || !k.proven(c) || !n.write(proof(c)) {
		return false
	}
	return n.dag.Insert(c) == api.OK
}

func (n *node) hearWant(from, round int) {
	for _, c := range n.certsFrom(round) {
		n.sendBatches(from, c.Header)
		n.send(from, proof(c))
	}
}

// certsFrom a round on, by rounds and authors: the first ones.
func (n *node) certsFrom(round int) []api.Cert {
	earlier := func(c api.Cert) bool { return c.Header.Round < round }
	l := slices.DeleteFunc(slices.Clone(n.dag.Certs()), earlier)
	slices.SortFunc(l, func(a, b api.Cert) int {
		return cmp.Or(
			cmp.Compare(a.Header.Round, b.Header.Round),
			cmp.Compare(a.Header.Author, b.Header.Author),
		)
	})
	return l[:min(len(l), mostTold)]
}
