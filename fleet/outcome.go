package fleet

import "sheaves/api"

// outcome of what was done. What a node keeps it shares with no other one.
func (f *fleet) outcome() api.Outcome {
	o := api.Outcome{Signs: f.notary.signs, Away: len(f.away), Codes: f.codes}
	for number := range f.nodes {
		o.Nodes = append(o.Nodes, f.view(number))
	}
	return o
}

// view of a node; nothing is told of the bad one.
func (f *fleet) view(number int) api.View {
	if f.bad(number) {
		return api.View{}
	}
	n := &f.nodes[number]
	v := api.View{Up: n.up, Round: n.dag.Round(), Certs: n.dag.Certs(), Votes: n.table, Pool: n.pool.Txs}
	for _, s := range n.sheaves {
		v.Batches = append(v.Batches, s.batch)
	}
	return v
}
