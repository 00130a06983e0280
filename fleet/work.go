package fleet

import (
	"bytes"
	"slices"

	"sheaves/api"
	"sheaves/ballot"
	"sheaves/pool"
	"sheaves/wire"
)

// work: what is due.
func (n *node) work() {
	n.gather()
	round := n.dag.Round()
	if n.own.Round < round {
		n.offerNew(round)
	} else if !n.dag.Has(n.own.Author, n.own.Round) {
		n.offerAgain()
	}
	n.ask(round)
}

// gather transactions into a batch. They leave the pool only if it is there.
func (n *node) gather() {
	p, b, e := pool.Seal(n.pool, n.number)
	if e != api.OK {
		return
	}
	n.hearBundle(b)
	digest, e := wire.BatchDigest(b)
	if e != api.OK || n.lacks(digest) {
		return
	}
	n.pool = p
	n.sendAll(bundle(b))
}

// offerNew: the record of the offer is that of its own vote, too.
func (n *node) offerNew(round int) {
	h := n.header(round)
	table, slot, e := ballot.Cast(n.table, h)
	if e != api.OK || !n.write(offer(h)) {
		return
	}
	n.table = table
	n.adopt(h, slot)
	n.sendAll(offer(h))
}

// offerAgain to all that have not voted; a batch may be what they lack.
func (n *node) offerAgain() {
	for to := range api.Nodes {
		if !n.hasVoter(to) {
			n.sendBatches(to, n.own)
			n.send(to, offer(n.own))
		}
	}
}

// header of a round, on all that was certified in the round ahead; of the
// first one that is nothing.
func (n *node) header(round int) api.Header {
	return api.Header{
		Author:  n.number,
		Round:   round,
		Batches: n.newBatches(),
		Parents: n.dag.Digests(round - 1),
	}
}

// newBatches: digests of its own batches that it has no certificate of.
func (n *node) newBatches() [][]byte {
	var digests [][]byte
	for _, s := range n.sheaves {
		if len(digests) == api.MaxBatches {
			break
		}
		if s.batch.Author == n.number && !n.spent(s.digest) {
			digests = append(digests, s.digest)
		}
	}
	return digests
}

// spent: has a certificate of its own this batch?
func (n *node) spent(digest []byte) bool {
	same := func(other []byte) bool { return bytes.Equal(other, digest) }
	has := func(c api.Cert) bool {
		return c.Header.Author == n.number && slices.ContainsFunc(c.Header.Batches, same)
	}
	return slices.ContainsFunc(n.dag.Certs(), has)
}

// ask the node whose turn it is for certificates.
func (n *node) ask(round int) {
	n.turn = behind(n.turn)
	if n.turn == n.number {
		n.turn = behind(n.turn)
	}
	n.send(n.turn, want(n.wanted(round)))
}

func behind(number int) int { return (number + 1) % api.Nodes }

// wanted: the round ahead of the next one, or the earliest one that has a
// certificate without its batches: they come with it.
func (n *node) wanted(round int) int {
	earliest := max(round-1, 1)
	for _, c := range n.dag.Certs() {
		if c.Header.Round < earliest && slices.ContainsFunc(c.Header.Batches, n.lacks) {
			earliest = c.Header.Round
		}
	}
	return earliest
}
