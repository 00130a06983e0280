package fleet

import (
	"slices"
	"testing"

	"sheaves/api"
	"sheaves/wire"
)

// What a node does if its tape is full. No script fills one, as batches, slots
// and certificates have limits of their own: so these tests make a node with
// such a tape.

func filled(n *node, room int) {
	n.tape = api.Tape{Data: make([]byte, api.MaxTape-room)}
}

func digest(t *testing.T, h api.Header) []byte {
	t.Helper()
	k, e := wire.HeaderDigest(h)
	if e != api.OK {
		t.Fatalf("no header: %d", e)
	}
	return k
}

// roomFor a record: with a byte less nothing happens.
func roomFor(t *testing.T, what string, size int, happens func(room int) bool) {
	t.Helper()
	for _, room := range []int{0, 1, size - 1} {
		if happens(room) {
			t.Errorf("%s: it happens with room for %d bytes", what, room)
		}
	}
	for _, room := range []int{size, size + 1, api.MaxTape} {
		if !happens(room) {
			t.Errorf("%s: it does not happen with room for %d bytes", what, room)
		}
	}
}

// P10.4
func TestBundleOnAFullTape(t *testing.T) {
	roomFor(t, "a bundle", 12, func(room int) bool {
		n := newNode(0)
		filled(&n, room)
		n.hear(bundle(api.Batch{Number: 1, Txs: []string{"a"}}), notary{rogue: 3})
		return len(n.sheaves) == 1
	})
}

// P10.5
func TestOfferOnAFullTape(t *testing.T) {
	h := api.Header{Author: 3, Round: 1}
	roomFor(t, "an offer", 41, func(room int) bool {
		n := newNode(0)
		filled(&n, room)
		n.hear(offer(h), notary{rogue: 3})
		if len(n.table) != len(n.waiting) {
			t.Errorf("%d votes, %d messages", len(n.table), len(n.waiting))
		}
		return len(n.table) == 1
	})
	// A vote that is on the tape is told again, full as it is.
	n := newNode(0)
	n.hear(offer(h), notary{rogue: 3})
	filled(&n, 0)
	n.hear(offer(h), notary{rogue: 3})
	if len(n.table) != 1 || len(n.waiting) != 2 {
		t.Errorf("%d votes, %d messages", len(n.table), len(n.waiting))
	}
}

// P10.6
func TestVoteOnAFullTape(t *testing.T) {
	h := api.Header{Author: 0, Round: 1}
	slot := api.Slot{Author: 0, Round: 1, Digest: digest(t, h)}
	k := notary{rogue: 3, signs: []api.Sign{{Node: 0, Slot: slot}, {Node: 1, Slot: slot}, {Node: 2, Slot: slot}}}
	voteFrom := func(from int) api.Message { return api.Message{From: from, Kind: api.Vote, Slot: slot} }
	roomFor(t, "the third vote", 15, func(room int) bool {
		n := newNode(0)
		n.work()
		n.waiting = nil
		filled(&n, room)
		n.hear(voteFrom(1), k)
		n.hear(voteFrom(3), k)
		if proofs := len(n.waiting); proofs != 3*len(n.dag.Certs()) {
			t.Errorf("%d proofs, %d certificates", proofs, len(n.dag.Certs()))
		}
		return len(n.dag.Certs()) == 1
	})
	// Those who voted are voters all the same, and the next one brings it in.
	n := newNode(0)
	n.work()
	filled(&n, 0)
	n.hear(voteFrom(1), k)
	n.hear(voteFrom(3), k)
	filled(&n, 99)
	n.hear(voteFrom(3), k)
	if len(n.dag.Certs()) != 0 {
		t.Error("a second vote of one that had voted brought it in")
	}
	n.hear(voteFrom(2), k)
	if l := n.dag.Certs(); len(l) != 1 || !slices.Equal(l[0].Voters, []int{0, 1, 2, 3}) {
		t.Errorf("certificates %v", l)
	}
}

// P10.7
func TestProofOnAFullTape(t *testing.T) {
	h := api.Header{Author: 3, Round: 1}
	slot := api.Slot{Author: 3, Round: 1, Digest: digest(t, h)}
	k := notary{rogue: 3, signs: []api.Sign{{Node: 1, Slot: slot}, {Node: 2, Slot: slot}}}
	roomFor(t, "a proof", 15, func(room int) bool {
		n := newNode(0)
		filled(&n, room)
		n.hear(proof(api.Cert{Header: h, Voters: []int{1, 2, 3}}), k)
		return len(n.dag.Certs()) == 1
	})
}

// P10.9
func TestWorkOnAFullTape(t *testing.T) {
	worked := func(room int) node {
		n := newNode(0)
		n.pool.Txs = []string{"a"}
		filled(&n, room)
		n.work()
		return n
	}
	// A batch has 12 bytes, an offer without a batch 11, with one 43.
	roomFor(t, "a batch", 12, func(room int) bool {
		n := worked(room)
		held := len(n.sheaves) == 1
		if held != (len(n.pool.Txs) == 0) || held != (n.pool.Next == 2) {
			t.Errorf("room for %d bytes: %d batches, pool %v", room, len(n.sheaves), n.pool)
		}
		return held
	})
	for room, want := range map[int]int{0: 1, 10: 1, 11: 4, 12: 4, 54: 4, 55: 7} {
		n := worked(room)
		if len(n.waiting) != want {
			t.Errorf("room for %d bytes: %d messages, want %d", room, len(n.waiting), want)
		}
		if last := n.waiting[len(n.waiting)-1]; last.Kind != api.Want || n.turn != 1 {
			t.Errorf("room for %d bytes: the last one is %v", room, last)
		}
	}
	for room, want := range map[int]int{0: 0, 10: 0, 11: 1, 12: 0, 54: 0, 55: 1} {
		n := worked(room)
		if len(n.table) != want || (n.own.Round == 1) != (want == 1) || len(n.voters) != want {
			t.Errorf("room for %d bytes: votes %v, header %v, voters %v", room, n.table, n.own, n.voters)
		}
	}
}

// P10.9: the earliest round is asked for, in whatever order the certificates
// stand, and whichever batch is missing.
func TestWantedIsTheEarliestRound(t *testing.T) {
	there := api.Batch{Author: 1, Number: 1, Txs: []string{"there"}}
	has, e := wire.BatchDigest(there)
	if e != api.OK {
		t.Fatalf("no batch: %d", e)
	}
	lacks := make([]byte, len(has))
	n := newNode(0)
	n.hear(bundle(there), notary{rogue: nobody})
	insert := func(author, round int, batches ...[]byte) {
		t.Helper()
		h := api.Header{Author: author, Round: round, Batches: batches, Parents: n.dag.Digests(round - 1)}
		if e := n.dag.Insert(api.Cert{Header: h, Voters: []int{0, 1, 2}}); e != api.OK {
			t.Fatalf("not inserted: %d", e)
		}
	}
	wanted := func(want int) {
		t.Helper()
		if got := n.wanted(n.dag.Round()); got != want {
			t.Errorf("round %d, want %d", got, want)
		}
	}
	wanted(1)
	for round := 1; round <= 5; round++ {
		for author := range api.Quorum {
			insert(author, round, has)
		}
	}
	wanted(5)
	insert(3, 5, lacks)
	wanted(5)
	insert(3, 4, has, lacks)
	wanted(4)
	insert(3, 2, lacks, has)
	wanted(2)
	insert(3, 3, lacks)
	wanted(2)
	insert(3, 1, has)
	wanted(2)
}
