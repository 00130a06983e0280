package fleet_test

import (
	"fmt"
	"reflect"
	"slices"
	"strings"
	"testing"

	"sheaves/api"
	"sheaves/fleet"
	"sheaves/wire"
)

const nobody = -1

// Acts.

func submit(n int, text string) api.Act { return api.Act{Kind: api.Submit, Node: n, Text: text} }
func work(n int) api.Act                { return api.Act{Kind: api.Work, Node: n} }
func sync(n int) api.Act                { return api.Act{Kind: api.Sync, Node: n} }
func take(pick int) api.Act             { return api.Act{Kind: api.Take, Pick: pick} }
func lose(pick int) api.Act             { return api.Act{Kind: api.Lose, Pick: pick} }
func copyOf(pick int) api.Act           { return api.Act{Kind: api.Copy, Pick: pick} }
func crash(n, keep int) api.Act         { return api.Act{Kind: api.Crash, Node: n, Pick: keep} }
func start(n int) api.Act               { return api.Act{Kind: api.Start, Node: n} }
func flow() api.Act                     { return api.Act{Kind: api.Flow} }

// forge a message that may be: it comes to the node.
func forge(n int, m api.Message) api.Act {
	b, e := wire.Encode(m)
	if e != api.OK {
		panic(fmt.Sprint("no message: ", m, e))
	}
	return api.Act{Kind: api.Forge, Node: n, Text: string(b)}
}

// script of acts and of lists of acts.
func script(parts ...any) []api.Act {
	var l []api.Act
	for _, p := range parts {
		switch x := p.(type) {
		case api.Act:
			l = append(l, x)
		case []api.Act:
			l = append(l, x...)
		default:
			panic("neither an act nor acts")
		}
	}
	return l
}

func times(n int, parts ...any) []api.Act { return slices.Repeat(script(parts...), n) }

// turn: these nodes work and sync, and all that is on its way comes.
func turn(nodes ...int) []api.Act {
	var l []api.Act
	for _, n := range nodes {
		l = append(l, work(n), sync(n))
	}
	return append(l, flow())
}

// rounds: all four are certified in so many rounds, and nothing waits or is on
// its way any more.
func rounds(n int) []api.Act { return script(times(3*n, turn(0, 1, 2, 3)), drained()) }

// drained: what waits and is on its way is lost.
func drained() []api.Act {
	return script(sync(0), sync(1), sync(2), sync(3), times(100, lose(0)))
}

func run(t *testing.T, rogue int, parts ...any) api.Outcome {
	t.Helper()
	o, e := fleet.Run(rogue, script(parts...))
	if e != api.OK {
		t.Fatalf("refused: %d", e)
	}
	if len(o.Nodes) != api.Nodes {
		t.Fatalf("%d nodes", len(o.Nodes))
	}
	return o
}

// refuse: an error, and nothing beside it.
func refuse(t *testing.T, what string, rogue int, l []api.Act, want api.Errno) {
	t.Helper()
	o, e := fleet.Run(rogue, l)
	if e != want || len(o.Nodes)+len(o.Signs)+o.Away+len(o.Codes) != 0 {
		t.Errorf("%s: %v %d, want %d", what, o, e, want)
	}
}

// Things.

func batch(author, number int, txs ...string) api.Batch {
	return api.Batch{Author: author, Number: number, Txs: txs}
}

func batchDigest(b api.Batch) []byte {
	k, e := wire.BatchDigest(b)
	if e != api.OK {
		panic(fmt.Sprint("no batch: ", b))
	}
	return k
}

func batchDigests(l ...api.Batch) [][]byte {
	var digests [][]byte
	for _, b := range l {
		digests = append(digests, batchDigest(b))
	}
	return digests
}

func headerDigest(h api.Header) []byte {
	k, e := wire.HeaderDigest(h)
	if e != api.OK {
		panic(fmt.Sprint("no header: ", h))
	}
	return k
}

// first: a header of round 1.
func first(author int, batches ...api.Batch) api.Header {
	return api.Header{Author: author, Round: 1, Batches: batchDigests(batches...)}
}

// next: a header on these ones.
func next(author int, parents []api.Header, batches ...api.Batch) api.Header {
	h := api.Header{Author: author, Round: parents[0].Round + 1, Batches: batchDigests(batches...)}
	for _, p := range parents {
		h.Parents = append(h.Parents, headerDigest(p))
	}
	return h
}

// emptyRound: the headers of a round without batches, on those ahead of it, of
// these authors.
func emptyRound(round int, authors ...int) []api.Header {
	var l []api.Header
	for _, a := range authors {
		if round == 1 {
			l = append(l, first(a))
		} else {
			l = append(l, next(a, emptyRound(round-1, authors...)))
		}
	}
	return l
}

func slot(h api.Header) api.Slot {
	return api.Slot{Author: h.Author, Round: h.Round, Digest: headerDigest(h)}
}

func slots(l ...api.Header) []api.Slot {
	var s []api.Slot
	for _, h := range l {
		s = append(s, slot(h))
	}
	return s
}

func sign(n int, h api.Header) api.Sign { return api.Sign{Node: n, Slot: slot(h)} }

func cert(h api.Header, voters ...int) api.Cert { return api.Cert{Header: h, Voters: voters} }

func bundle(b api.Batch) api.Message { return api.Message{Kind: api.Bundle, Batch: b} }
func offer(h api.Header) api.Message { return api.Message{Kind: api.Offer, Header: h} }
func proof(c api.Cert) api.Message   { return api.Message{Kind: api.Proof, Cert: c} }
func want(from, r int) api.Message   { return api.Message{From: from, Kind: api.Want, Round: r} }
func voteFrom(n int, h api.Header) api.Message {
	return api.Message{From: n, Kind: api.Vote, Slot: slot(h)}
}

// What came of it.

// show: a list without elements looks the same, be it nil or not.
func show(x any) string { return strings.ReplaceAll(fmt.Sprintf("%v", x), "<nil>", "[]") }

func same(t *testing.T, what string, got, want any) {
	t.Helper()
	if show(got) != show(want) {
		t.Errorf("%s: %v, want %v", what, got, want)
	}
}

func untouched() api.View { return api.View{Up: true, Round: 1} }

func has(signs []api.Sign, s api.Sign) bool {
	return slices.ContainsFunc(signs, func(other api.Sign) bool { return reflect.DeepEqual(other, s) })
}

// heads: author and round of certificates, as they stand.
func heads(l []api.Cert) [][2]int {
	var out [][2]int
	for _, c := range l {
		out = append(out, [2]int{c.Header.Author, c.Header.Round})
	}
	return out
}
