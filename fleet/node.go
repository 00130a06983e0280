package fleet

import (
	"bytes"
	"slices"

	"sheaves/api"
	"sheaves/stock"
	"sheaves/tape"
	"sheaves/wire"
)

// A sheaf is a batch that a node holds, and its digest, which is worked out
// once: batches are looked for by it all the time.
type sheaf struct {
	batch  api.Batch
	digest []byte
}

// A node keeps what came to it in memory of its own. Messages share that with
// who sends them: so it is added to, and not changed.
type node struct {
	number  int
	up      bool
	pool    api.Pool
	sheaves []sheaf
	table   []api.Slot
	dag     *stock.Stock
	own     api.Header // of Round 0: there is none
	slot    api.Slot   // of its own header
	voters  []int
	tape    api.Tape
	waiting []api.Message
	turn    int
}

// newNode as it is at the beginning, but for being up.
func newNode(number int) node {
	return node{number: number, pool: api.Pool{Next: 1}, dag: &stock.Stock{}}
}

// write a record, if there is room for it.
func (n *node) write(record api.Message) bool {
	t, e := tape.Append(n.tape, record)
	if e != api.OK {
		return false
	}
	n.tape = t
	return true
}

// send a message to a node, behind all that wait for a sync.
func (n *node) send(to int, m api.Message) {
	if to == n.number || len(n.waiting) >= api.MaxOut {
		return
	}
	m.From, m.To = n.number, to
	n.waiting = append(n.waiting, m)
}

func (n *node) sendAll(m api.Message) {
	for to := range api.Nodes {
		n.send(to, m)
	}
}

// sendBatches of a header, as far as they are there.
func (n *node) sendBatches(to int, h api.Header) {
	for _, digest := range h.Batches {
		if at := n.find(digest); at >= 0 {
			n.send(to, bundle(n.sheaves[at].batch))
		}
	}
}

// synced: the tape is, and what waited for that waits no more.
func (n *node) synced() []api.Message {
	t, e := tape.Sync(n.tape)
	if e != api.OK {
		return nil
	}
	waited := n.waiting
	n.tape, n.waiting = t, nil
	return waited
}

// find the place of the batch of a digest; below 0: it is not there.
func (n *node) find(digest []byte) int {
	same := func(s sheaf) bool { return bytes.Equal(s.digest, digest) }
	return slices.IndexFunc(n.sheaves, same)
}

func (n *node) lacks(digest []byte) bool { return n.find(digest) < 0 }

// takes: is the batch not there, and is there room for it?
func (n *node) takes(b api.Batch) (sheaf, bool) {
	digest, e := wire.BatchDigest(b)
	ok := e == api.OK && n.lacks(digest) && len(n.sheaves) < api.MaxHeld
	b.Txs = slices.Clone(b.Txs)
	return sheaf{batch: b, digest: digest}, ok
}

func (n *node) hasVoter(number int) bool {
	same := func(voter int) bool { return voter == number }
	return slices.ContainsFunc(n.voters, same)
}

// adopt a header as its own; it alone has voted for it so far.
func (n *node) adopt(h api.Header, s api.Slot) {
	n.own, n.slot, n.voters = h, s, []int{n.number}
}

// Messages, and records, by what they carry.

func bundle(b api.Batch) api.Message { return api.Message{Kind: api.Bundle, Batch: b} }

func offer(h api.Header) api.Message { return api.Message{Kind: api.Offer, Header: h} }

func vote(s api.Slot) api.Message { return api.Message{Kind: api.Vote, Slot: s} }

func proof(c api.Cert) api.Message { return api.Message{Kind: api.Proof, Cert: c} }

func want(round int) api.Message { return api.Message{Kind: api.Want, Round: round} }
