package fleet

import (
	"sheaves/api"
	"sheaves/ballot"
	"sheaves/tape"
)

// crashed: the node that is left of it, down. It knows what its tape tells,
// and so many bytes of that were kept beside the synced ones.
func (n *node) crashed(keep int) node {
	left := newNode(n.number)
	t, e := tape.Crash(n.tape, keep)
	if e != api.OK {
		return left
	}
	records, t, e := tape.Recover(t)
	if e != api.OK {
		return left
	}
	left.tape = t
	for _, m := range records {
		left.recall(m)
	}
	left.pool.Next = left.nextNumber()
	return left
}

// recall what a record tells. It is on the tape, and not written again.
func (n *node) recall(m api.Message) {
	switch m.Kind {
	case api.Bundle:
		if s, ok := n.takes(m.Batch); ok {
			n.sheaves = append(n.sheaves, s)
		}
	case api.Offer:
		n.recallOffer(m.Header)
	case api.Vote:
		n.table = append(n.table, m.Slot)
	case api.Proof:
		n.dag.Insert(m.Cert)
	}
}

// recallOffer: a node that offered a header has voted for it.
func (n *node) recallOffer(h api.Header) {
	slot, e := slotOf(h)
	if e != api.OK {
		return
	}
	n.adopt(h, slot)
	if table, _, e := ballot.Cast(n.table, h); e == api.OK {
		n.table = table
	}
}

// nextNumber of a batch: above all that it knows of its own, so that none
// stands for two batches.
func (n *node) nextNumber() int {
	greatest := 0
	for _, s := range n.sheaves {
		if s.batch.Author == n.number {
			greatest = max(greatest, s.batch.Number)
		}
	}
	return greatest + 1
}
