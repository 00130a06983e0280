package fleet_test

import (
	"bytes"
	"cmp"
	"slices"

	"sheaves/api"
	"sheaves/ballot"
	"sheaves/dag"
	"sheaves/pool"
	"sheaves/seal"
	"sheaves/tape"
	"sheaves/wire"
)

// A model of the fleet: chapter 10 word by word, on the faces of the other
// packages, with no thought of time.
type model struct {
	rogue int
	nodes [api.Nodes]*modelNode
	signs []api.Sign
	way   []api.Message
	codes []api.Errno
}

type modelNode struct {
	me      int
	up      bool
	pool    api.Pool
	batches []api.Batch
	table   []api.Slot
	dag     api.Dag
	own     []api.Header // one, or none
	voters  []int
	tape    api.Tape
	out     []api.Message
	turn    int
}

func newModel(rogue int) *model {
	m := &model{rogue: rogue}
	for n := range m.nodes {
		m.nodes[n] = &modelNode{me: n, up: true, pool: api.Pool{Next: 1}}
	}
	return m
}

func (n *modelNode) there(k []byte) bool { return n.batchOf(k) != nil }

func (n *modelNode) batchOf(k []byte) *api.Batch {
	for i := range n.batches {
		if bytes.Equal(batchDigest(n.batches[i]), k) {
			return &n.batches[i]
		}
	}
	return nil
}

func (n *modelNode) allThere(h api.Header) bool {
	all := true
	for _, k := range h.Batches {
		all = all && n.there(k)
	}
	return all
}

func (n *modelNode) writes(m api.Message) bool {
	t, e := tape.Append(n.tape, m)
	if e == api.OK {
		n.tape = t
	}
	return e == api.OK
}

func (n *modelNode) sends(to int, m api.Message) {
	if to != n.me && len(n.out) < api.MaxOut {
		m.From, m.To = n.me, to
		n.out = append(n.out, m)
	}
}

func (n *modelNode) sendsOthers(m api.Message) {
	for to := range api.Nodes {
		if to != n.me {
			n.sends(to, m)
		}
	}
}

func (n *modelNode) sendsBatches(to int, h api.Header) {
	for _, k := range h.Batches {
		if b := n.batchOf(k); b != nil {
			n.sends(to, bundle(*b))
		}
	}
}

func (n *modelNode) certified(h api.Header) bool {
	for _, c := range n.dag.Certs {
		if c.Header.Author == h.Author && c.Header.Round == h.Round {
			return true
		}
	}
	return false
}

func (n *modelNode) takesBatch(b api.Batch) {
	if !n.there(batchDigest(b)) && len(n.batches) < api.MaxHeld && n.writes(bundle(b)) {
		n.batches = append(n.batches, b)
	}
}

func (m *model) takesCert(n *modelNode, c api.Cert) bool {
	if seal.Proven(m.signs, m.rogue, c) != api.OK {
		return false
	}
	d, e := dag.Insert(n.dag, c)
	if e != api.OK || !n.writes(proof(c)) {
		return false
	}
	n.dag = d
	return true
}

func (m *model) comes(to int, x api.Message) {
	n := m.nodes[to]
	if to == m.rogue || !n.up {
		return
	}
	signed := func(node int, s api.Slot) bool {
		ok, e := seal.Signed(m.signs, m.rogue, api.Sign{Node: node, Slot: s})
		return ok && e == api.OK
	}
	switch x.Kind {
	case api.Bundle:
		n.takesBatch(x.Batch)
	case api.Offer:
		h := x.Header
		if h.Author == n.me || !signed(h.Author, slot(h)) {
			return
		}
		if missing, e := dag.Missing(n.dag, h); e != api.OK || len(missing) > 0 || !n.allThere(h) {
			return
		}
		table, s, e := ballot.Cast(n.table, h)
		if e != api.OK {
			return
		}
		if _, old := ballot.Voted(n.table, h.Author, h.Round); old == api.ErrNone && !n.writes(api.Message{Kind: api.Vote, Slot: s}) {
			return
		}
		n.table = table
		n.sends(h.Author, api.Message{Kind: api.Vote, Slot: s})
	case api.Vote:
		if len(n.own) == 0 || show(x.Slot) != show(slot(n.own[0])) || n.certified(n.own[0]) {
			return
		}
		if !signed(x.From, x.Slot) || slices.Contains(n.voters, x.From) {
			return
		}
		n.voters = append(slices.Clone(n.voters), x.From)
		if len(n.voters) >= api.Quorum {
			voters := slices.Clone(n.voters)
			slices.Sort(voters)
			if c := cert(n.own[0], voters...); m.takesCert(n, c) {
				n.sendsOthers(proof(c))
			}
		}
	case api.Proof:
		m.takesCert(n, x.Cert)
	case api.Want:
		var l []api.Cert
		for _, c := range n.dag.Certs {
			if c.Header.Round >= x.Round {
				l = append(l, c)
			}
		}
		slices.SortFunc(l, func(a, b api.Cert) int {
			return cmp.Compare(a.Header.Round*api.Nodes+a.Header.Author, b.Header.Round*api.Nodes+b.Header.Author)
		})
		for i, c := range l {
			if i < 8 {
				n.sendsBatches(x.From, c.Header)
				n.sends(x.From, proof(c))
			}
		}
	}
}

func (m *model) works(n *modelNode) {
	if p, b, e := pool.Seal(n.pool, n.me); e == api.OK {
		n.takesBatch(b)
		if n.there(batchDigest(b)) {
			n.pool = p
			n.sendsOthers(bundle(b))
		}
	}
	r, _ := dag.Round(n.dag)
	if len(n.own) == 0 || n.own[0].Round < r {
		h := api.Header{Author: n.me, Round: r}
		for _, b := range n.batches {
			used := false
			for _, c := range n.dag.Certs {
				used = used || c.Header.Author == n.me && show(c.Header.Batches) != show(without(c.Header.Batches, batchDigest(b)))
			}
			if b.Author == n.me && !used && len(h.Batches) < api.MaxBatches {
				h.Batches = append(h.Batches, batchDigest(b))
			}
		}
		if r > 1 {
			h.Parents, _ = dag.Digests(n.dag, r-1)
		}
		if table, _, e := ballot.Cast(n.table, h); e == api.OK && n.writes(offer(h)) {
			n.table, n.own, n.voters = table, []api.Header{h}, []int{n.me}
			n.sendsOthers(offer(h))
		}
	} else if !n.certified(n.own[0]) {
		for to := range api.Nodes {
			if !slices.Contains(n.voters, to) {
				n.sendsBatches(to, n.own[0])
				n.sends(to, offer(n.own[0]))
			}
		}
	}
	for ok := true; ok; ok = n.turn == n.me {
		if n.turn++; n.turn == api.Nodes {
			n.turn = 0
		}
	}
	wanted := r - 1
	if wanted < 1 {
		wanted = 1
	}
	for round := wanted - 1; round >= 1; round-- {
		for _, c := range n.dag.Certs {
			if c.Header.Round == round && !n.allThere(c.Header) {
				wanted = round
			}
		}
	}
	n.sends(n.turn, api.Message{Kind: api.Want, Round: wanted})
}

func without(l [][]byte, k []byte) [][]byte {
	var out [][]byte
	for _, x := range l {
		if !bytes.Equal(x, k) {
			out = append(out, x)
		}
	}
	return out
}

func (m *model) syncs(n *modelNode) {
	n.tape, _ = tape.Sync(n.tape)
	for _, x := range n.out {
		switch x.Kind {
		case api.Offer:
			m.signs, _ = seal.Add(m.signs, api.Sign{Node: n.me, Slot: slot(x.Header)})
		case api.Vote:
			m.signs, _ = seal.Add(m.signs, api.Sign{Node: n.me, Slot: x.Slot})
		}
		if len(m.way) < api.MaxOut {
			m.way = append(m.way, x)
		}
	}
	n.out = nil
}

func crashed(n *modelNode, keep int) *modelNode {
	left := &modelNode{me: n.me, pool: api.Pool{Next: 1}}
	t, _ := tape.Crash(n.tape, keep)
	records, t, _ := tape.Recover(t)
	left.tape = t
	for _, x := range records {
		switch x.Kind {
		case api.Bundle:
			if !left.there(batchDigest(x.Batch)) && len(left.batches) < api.MaxHeld {
				left.batches = append(left.batches, x.Batch)
			}
		case api.Offer:
			left.own, left.voters = []api.Header{x.Header}, []int{n.me}
			if table, _, e := ballot.Cast(left.table, x.Header); e == api.OK {
				left.table = table
			}
		case api.Vote:
			left.table = append(left.table, x.Slot)
		case api.Proof:
			if d, e := dag.Insert(left.dag, x.Cert); e == api.OK {
				left.dag = d
			}
		}
	}
	for _, b := range left.batches {
		if b.Author == n.me && b.Number >= left.pool.Next {
			left.pool.Next = b.Number + 1
		}
	}
	return left
}

func (m *model) act(a api.Act) {
	n := m.nodes[a.Node]
	alive := n.up && a.Node != m.rogue
	pick := 0
	if len(m.way) > 0 {
		pick = a.Pick % len(m.way)
	}
	switch a.Kind {
	case api.Submit:
		e := api.ErrState
		if alive {
			var p api.Pool
			if p, e = pool.Add(n.pool, a.Text); e == api.OK {
				n.pool = p
			}
		}
		m.codes = append(m.codes, e)
	case api.Work:
		if alive {
			m.works(n)
		}
	case api.Sync:
		if alive {
			m.syncs(n)
		}
	case api.Crash:
		if alive {
			m.nodes[a.Node] = crashed(n, a.Pick)
		}
	case api.Start:
		n.up = true
	case api.Flow:
		l := m.way
		m.way = nil
		for _, x := range l {
			m.comes(x.To, x)
		}
	case api.Forge:
		if x, e := wire.Decode([]byte(a.Text)); e == api.OK && m.rogue != nobody {
			m.comes(a.Node, x)
		}
	case api.Take, api.Lose, api.Copy:
		if len(m.way) == 0 {
			return
		}
		x := m.way[pick]
		if a.Kind == api.Copy {
			if len(m.way) < api.MaxOut {
				m.way = append(m.way, x)
			}
			return
		}
		m.way = append(slices.Clone(m.way[:pick]), m.way[pick+1:]...)
		if a.Kind == api.Take {
			m.comes(x.To, x)
		}
	}
}

func (m *model) outcome() api.Outcome {
	o := api.Outcome{Signs: m.signs, Away: len(m.way), Codes: m.codes}
	for i, n := range m.nodes {
		v := api.View{}
		if i != m.rogue {
			r, _ := dag.Round(n.dag)
			v = api.View{Up: n.up, Round: r, Certs: n.dag.Certs, Batches: n.batches, Votes: n.table, Pool: n.pool.Txs}
		}
		o.Nodes = append(o.Nodes, v)
	}
	return o
}
