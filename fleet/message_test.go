package fleet_test

import (
	"fmt"
	"slices"
	"testing"

	"sheaves/api"
	"sheaves/fleet"
)

// P10.4

func TestBundle(t *testing.T) {
	b := batch(0, 1, "a")
	l := script(submit(0, "a"), work(0), sync(0))
	o := run(t, nobody, l, flow())
	for n, v := range o.Nodes {
		same(t, fmt.Sprint("batches of ", n), v.Batches, []api.Batch{b})
	}
	o = run(t, nobody, l, take(1))
	same(t, "of the one that it was for", o.Nodes[2].Batches, []api.Batch{b})
	same(t, "of another one", o.Nodes[1].Batches, nil)
}

func TestBundleThatComesTwice(t *testing.T) {
	o := run(t, nobody, submit(0, "a"), work(0), sync(0), copyOf(0), copyOf(0), flow())
	same(t, "batches", o.Nodes[1].Batches, []api.Batch{batch(0, 1, "a")})
}

// Batches are told apart by their digests: by all that they have.
func TestBundlesInTheirOrder(t *testing.T) {
	l := []api.Batch{
		batch(3, 9, "z"), batch(0, 1, "a"), batch(0, 1, "b"), batch(1, 1, "a"), batch(0, 2, "a"), batch(0, 1, "a", "a"), batch(2, api.MaxRound, "a"),
	}
	var acts []api.Act
	for _, b := range l {
		acts = append(acts, forge(1, bundle(b)))
	}
	o := run(t, 3, acts, acts)
	same(t, "batches", o.Nodes[1].Batches, l)
}

func manyBundles(to, n int) []api.Act {
	var l []api.Act
	for i := range n {
		l = append(l, forge(to, bundle(batch(2, i+1, "held"))))
	}
	return l
}

func TestMaxHeld(t *testing.T) {
	full := manyBundles(0, api.MaxHeld)
	more := forge(0, bundle(batch(1, 1, "more")))
	o := run(t, 3, full[:api.MaxHeld-1], more)
	if l := o.Nodes[0].Batches; len(l) != api.MaxHeld || show(l[api.MaxHeld-1]) != show(batch(1, 1, "more")) {
		t.Errorf("%d batches", len(l))
	}
	o = run(t, 3, full, more)
	if l := o.Nodes[0].Batches; len(l) != api.MaxHeld || show(l[api.MaxHeld-1]) != show(batch(2, api.MaxHeld, "held")) {
		t.Errorf("%d batches", len(l))
	}
	// What did not stand there is not on the tape, either.
	o = run(t, 3, full, more, sync(0), crash(0, 0))
	if l := o.Nodes[0].Batches; len(l) != api.MaxHeld || show(l[api.MaxHeld-1]) != show(batch(2, api.MaxHeld, "held")) {
		t.Errorf("%d batches behind a crash", len(l))
	}
}

// P10.5

// voteOf: does node 0 vote for a header, behind these acts? Its vote is on its
// way to the author then, and signed.
func voteOf(t *testing.T, what string, rogue int, h api.Header, want bool, parts ...any) {
	t.Helper()
	l := script(parts...)
	before := run(t, rogue, l, sync(0))
	after := run(t, rogue, l, sync(0), forge(0, offer(h)), sync(0))
	if !want {
		same(t, what, after, before)
		return
	}
	vote := api.Message{To: h.Author, Kind: api.Vote, Slot: slot(h)}
	away := fleet.Away(rogue, script(l, sync(0), forge(0, offer(h)), sync(0)))
	same(t, what+": on its way", away[len(away)-1], vote)
	before.Away++
	if !has(before.Signs, sign(0, h)) {
		before.Signs = append(before.Signs, sign(0, h))
		before.Nodes[0].Votes = append(before.Nodes[0].Votes, slot(h))
	}
	same(t, what, after, before)
}

func TestOffer(t *testing.T) {
	for author := 1; author < api.Nodes; author++ {
		h := first(author)
		voteOf(t, "of the rogue", author, h, true)
		other := author%3 + 1
		voteOf(t, "not signed", other, h, false)
		voteOf(t, "made, but not signed", other, h, false, work(author))
		voteOf(t, "signed", other, h, true, work(author), sync(author))
		voteOf(t, "another one is signed", other, h, false, submit(author, "a"), work(author), sync(author))
	}
	voteOf(t, "its own", 3, first(0), false)
	voteOf(t, "its own, signed", 3, first(0), false, work(0), sync(0))
}

// Whose name an offer comes in is all the same.
func TestOfferFromAnybody(t *testing.T) {
	for from := range api.Nodes {
		m := offer(first(3))
		m.From, m.To = from, 2
		o := run(t, 3, forge(0, m))
		same(t, "votes", o.Nodes[0].Votes, slots(first(3)))
	}
}

func TestOfferStandsOnItsBatches(t *testing.T) {
	a, b, c := batch(1, 1, "a"), batch(2, 1, "b"), batch(3, 7, "c")
	h := first(3, a, b, c)
	hasA, hasB, hasC := forge(0, bundle(a)), forge(0, bundle(b)), forge(0, bundle(c))
	voteOf(t, "none is there", 3, h, false)
	voteOf(t, "the first one", 3, h, false, hasA)
	voteOf(t, "the last one", 3, h, false, hasC)
	voteOf(t, "all but the first one", 3, h, false, hasB, hasC)
	voteOf(t, "all but the last one", 3, h, false, hasA, hasB)
	voteOf(t, "at another node", 3, h, false, hasA, hasB, forge(1, bundle(c)))
	voteOf(t, "all", 3, h, true, hasC, hasA, hasB)
	voteOf(t, "refused, then all", 3, h, true, hasA, forge(0, offer(h)), hasB, hasC)
}

func TestOfferStandsOnItsParents(t *testing.T) {
	round1, round2 := emptyRound(1, 0, 1, 2), emptyRound(2, 0, 1, 2)
	one := script(times(3, turn(0, 1, 2)))
	two := script(times(6, turn(0, 1, 2)))
	h := next(3, round1)
	voteOf(t, "none is there", 3, h, false)
	voteOf(t, "all", 3, h, true, one)
	voteOf(t, "all, and more", 3, h, true, two)
	voteOf(t, "two, and one that nobody has", 3, next(3, append(round1[:2:2], first(3))), false, one)
	voteOf(t, "three, and one that nobody has", 3, next(3, append(round1[:3:3], first(3))), false, one)
	h.Round = 3
	voteOf(t, "not of the round ahead", 3, h, false, one)
	voteOf(t, "not of the round ahead, which there is", 3, h, false, two)
	voteOf(t, "of the round ahead", 3, next(3, round2), true, two)
	h = next(3, append(round2[:2:2], round1[0]))
	voteOf(t, "one is not of the round ahead", 3, h, false, two)
	voteOf(t, "parents and batches", 3, next(3, round1, batch(2, 2, "b")), false, one)
	voteOf(t, "parents and batches", 3, next(3, round1, batch(2, 2, "b")), true, one, forge(0, bundle(batch(2, 2, "b"))))
}

func TestOfferOfAnotherHeader(t *testing.T) {
	a, b := batch(3, 1, "a"), batch(3, 1, "b")
	both := script(forge(0, bundle(a)), forge(0, bundle(b)))
	voteOf(t, "the first one", 3, first(3, a), true, both)
	voteOf(t, "a second one", 3, first(3, b), false, both, forge(0, offer(first(3, a))))
	voteOf(t, "a second one, to another node", 3, first(3, b), true, both, forge(1, bundle(a)), forge(1, offer(first(3, a))))
	voteOf(t, "of another round", 3, next(3, emptyRound(1, 0, 1, 2), b), true, both, forge(0, offer(first(3, a))), times(3, turn(0, 1, 2)))
}

// The same offer is voted for again, as the vote may be lost: but that stands
// in the table, on the tape and among the signs once.
func TestOfferThatComesTwice(t *testing.T) {
	h := first(3)
	voteOf(t, "twice", 3, h, true, forge(0, offer(h)))
	voteOf(t, "thrice", 3, h, true, forge(0, offer(h)), sync(0), forge(0, offer(h)))
	o := run(t, 3, times(5, forge(0, offer(h))), sync(0), times(5, forge(0, offer(h))), sync(0))
	same(t, "votes", o.Nodes[0].Votes, slots(h))
	same(t, "signs", o.Signs, []api.Sign{sign(0, h)})
	if o.Away != 10 {
		t.Errorf("%d on their way", o.Away)
	}
	// A vote's record has 41 bytes: a second one would show behind a crash.
	o = run(t, 3, times(2, forge(0, offer(h))), crash(0, api.MaxTape))
	same(t, "votes behind a crash", o.Nodes[0].Votes, slots(h))
}

func TestOfferToAFullTable(t *testing.T) {
	l := script(times(300, turn(0, 1, 2)))
	o := run(t, 3, l)
	if r := o.Nodes[0].Round; r != 101 || len(o.Nodes[0].Votes) != 300 {
		t.Fatalf("round %d, %d votes", r, len(o.Nodes[0].Votes))
	}
	headers := emptyRounds(100, 0, 1, 2)
	var offers []api.Act
	offers = append(offers, forge(0, offer(first(3))))
	for r := 1; r < 100; r++ {
		offers = append(offers, forge(0, offer(next(3, headers[r-1]))))
	}
	last := forge(0, offer(next(3, headers[99])))
	o = run(t, 3, l, sync(0), flow(), offers, sync(0))
	if n := len(o.Nodes[0].Votes); n != api.MaxSlots {
		t.Fatalf("%d votes", n)
	}
	same(t, "one more", run(t, 3, l, sync(0), flow(), offers, last, sync(0)), o)
	o.Away++
	same(t, "one that is there", run(t, 3, l, sync(0), flow(), offers, offers[99], sync(0)), o)
}

// emptyRounds: the headers of so many rounds without batches.
func emptyRounds(n int, authors ...int) [][]api.Header {
	l := [][]api.Header{emptyRound(1, authors...)}
	for len(l) < n {
		var headers []api.Header
		for _, a := range authors {
			headers = append(headers, next(a, l[len(l)-1]))
		}
		l = append(l, headers)
	}
	return l
}

// P10.6

// offered: node 0 has offered its header, 1 has signed a vote, 2 has not yet.
func offered() []api.Act {
	return script(work(0), sync(0), flow(), sync(1), lose(0))
}

func certOf(t *testing.T, what string, rogue int, want []api.Cert, parts ...any) {
	t.Helper()
	same(t, what, run(t, rogue, parts...).Nodes[0].Certs, want)
}

func TestVote(t *testing.T) {
	h := first(0)
	from := func(n int) api.Act { return forge(0, voteFrom(n, h)) }
	certOf(t, "one vote", 3, nil, offered(), from(1))
	certOf(t, "a quorum", 3, []api.Cert{cert(h, 0, 1, 3)}, offered(), from(1), from(3))
	certOf(t, "a quorum, the other way round", 3, []api.Cert{cert(h, 0, 1, 3)}, offered(), from(3), from(1))
	certOf(t, "one that has not signed", 3, nil, offered(), from(1), from(2))
	certOf(t, "one that has not signed, and a third one", 3, nil, offered(), from(2), from(3))
	certOf(t, "it signs, and votes again", 3, []api.Cert{cert(h, 0, 1, 2)}, offered(), from(1), from(2), sync(2), from(2))
	certOf(t, "the same one twice", 3, nil, offered(), from(1), from(1))
	certOf(t, "the rogue twice", 3, nil, offered(), from(3), from(3), from(3))
	certOf(t, "itself", 3, nil, offered(), from(1), from(0))
	certOf(t, "one more than a quorum", 3, []api.Cert{cert(h, 0, 1, 3)}, offered(), from(3), from(1), sync(2), from(2))
	certOf(t, "in nobody's name", nobody, nil, offered(), from(1), from(3))
}

func TestVotersRise(t *testing.T) {
	l := script(work(2), sync(2), flow(), sync(0), sync(1), sync(3))
	orders := map[string][]api.Act{
		"0 1":   {take(0), take(0)},
		"1 0":   {take(1), take(0)},
		"3 1":   {take(2), take(1)},
		"3 0 1": {take(2), take(0), take(0)},
	}
	want := map[string][]int{"0 1": {0, 1, 2}, "1 0": {0, 1, 2}, "3 1": {1, 2, 3}, "3 0 1": {0, 2, 3}}
	for what, votes := range orders {
		o := run(t, nobody, l, votes)
		same(t, what, o.Nodes[2].Certs, []api.Cert{cert(first(2), want[what]...)})
	}
}

func TestVoteForAnotherSlot(t *testing.T) {
	b := batch(3, 1, "b")
	h := first(0)
	vote := func(n int, s api.Slot) api.Act { return forge(0, api.Message{From: n, Kind: api.Vote, Slot: s}) }
	l := script(offered(), forge(0, voteFrom(1, h)))
	certOf(t, "its own", 3, []api.Cert{cert(h, 0, 1, 3)}, l, vote(3, slot(h)))
	for what, s := range map[string]api.Slot{
		"another digest": {Author: 0, Round: 1, Digest: headerDigest(first(0, b))},
		"another round":  {Author: 0, Round: 2, Digest: headerDigest(h)},
		"another author": {Author: 1, Round: 1, Digest: headerDigest(h)},
		"no digest":      {Author: 0, Round: 1, Digest: make([]byte, 32)},
	} {
		certOf(t, what, 3, nil, l, vote(3, s))
		certOf(t, what+", then its own", 3, []api.Cert{cert(h, 0, 1, 3)}, l, vote(3, s), vote(3, slot(h)))
	}
	// A node without a header has no voters.
	o := run(t, 3, forge(0, voteFrom(3, h)), forge(0, voteFrom(1, h)), forge(0, voteFrom(2, h)))
	same(t, "no header", o, run(t, 3))
}

// An earlier header of its own is its own no more.
func TestVoteForAnEarlierHeader(t *testing.T) {
	// Node 1 has signed a vote, which is lost.
	l := script(work(0), sync(0), take(0), times(3, lose(0)), sync(1), lose(0), forge(0, voteFrom(3, first(0))))
	// Nodes 1, 2 and the rogue are certified without node 0.
	on := script(work(1), sync(1), work(2), sync(2), flow(), sync(1), sync(2), flow())
	for _, h := range []api.Header{first(1), first(2)} {
		on = append(on, forge(h.Author, voteFrom(3, h)), sync(h.Author))
	}
	on = append(on, forge(1, offer(first(3))), forge(2, offer(first(3))), sync(1), sync(2), flow())
	on = append(on, forge(0, proof(cert(first(3), 1, 2, 3))))
	round1 := []api.Header{first(1), first(2), first(3)}
	o := run(t, 3, l, on)
	if o.Nodes[0].Round != 2 || len(o.Nodes[0].Certs) != 3 {
		t.Fatalf("round %d, certificates %v", o.Nodes[0].Round, o.Nodes[0].Certs)
	}
	still := run(t, 3, l, on, forge(0, voteFrom(1, first(0))))
	if len(still.Nodes[0].Certs) != 4 {
		t.Errorf("its own one: %v", heads(still.Nodes[0].Certs))
	}
	late := run(t, 3, l, on, work(0), forge(0, voteFrom(1, first(0))), sync(0))
	if len(late.Nodes[0].Certs) != 3 || !has(late.Signs, sign(0, next(0, round1))) {
		t.Errorf("an earlier one: %v", heads(late.Nodes[0].Certs))
	}
}

// Is a certificate of its own header there, votes do nothing.
func TestVoteForWhatIsCertified(t *testing.T) {
	l := script(work(0), sync(0), flow(), sync(1), sync(2), lose(0), lose(0))
	l = append(l, forge(0, proof(cert(first(0), 0, 1, 2))), sync(0))
	o := run(t, 3, l)
	same(t, "certificates", o.Nodes[0].Certs, []api.Cert{cert(first(0), 0, 1, 2)})
	for _, n := range []int{1, 2, 3} {
		l = append(l, forge(0, voteFrom(n, first(0))))
	}
	same(t, "votes behind it", run(t, 3, l, sync(0)), o)
}

func TestCertificateIsSentToAllOthers(t *testing.T) {
	h := first(1)
	c := cert(h, 0, 1, 3)
	away := fleet.Away(3, script(work(1), sync(1), flow(), sync(0), flow(), forge(1, voteFrom(3, h)), sync(1)))
	same(t, "on their way", away, []api.Message{
		{From: 1, To: 0, Kind: api.Proof, Cert: c},
		{From: 1, To: 2, Kind: api.Proof, Cert: c},
		{From: 1, To: 3, Kind: api.Proof, Cert: c},
	})
	o := run(t, nobody, work(1), sync(1), flow(), sync(0), sync(2), flow(), sync(1), flow())
	for _, v := range o.Nodes {
		same(t, "certificates", v.Certs, []api.Cert{cert(h, 0, 1, 2)})
	}
}

// The author must have signed, too: an offer that found no room was not sent,
// and not signed.
func TestCertificateMustBeProven(t *testing.T) {
	// Node 0 works again and again until no more may wait; its header of round 2
	// is not sent then, and not signed.
	l := script(times(3, turn(0, 1, 2)), sync(0), sync(1), sync(2), times(40, lose(0)))
	o := run(t, 3, l)
	if o.Nodes[0].Round != 2 || o.Away != 0 {
		t.Fatalf("round %d, %d on their way", o.Nodes[0].Round, o.Away)
	}
	h := next(0, emptyRound(1, 0, 1, 2))
	full := script(times(150, forge(0, want(1, 1))), work(0), sync(0))
	o = run(t, 3, l, full)
	if has(o.Signs, sign(0, h)) || !slices.ContainsFunc(o.Nodes[0].Votes, func(s api.Slot) bool { return show(s) == show(slot(h)) }) {
		t.Fatalf("signs %v, votes %v", o.Signs, o.Nodes[0].Votes)
	}
	certs := len(o.Nodes[0].Certs)
	o = run(t, 3, l, full, forge(0, voteFrom(3, h)), forge(0, voteFrom(1, h)), forge(0, voteFrom(2, h)))
	if len(o.Nodes[0].Certs) != certs {
		t.Errorf("certificates %v", heads(o.Nodes[0].Certs))
	}
}

// P10.7

func TestProof(t *testing.T) {
	h := first(0)
	l := script(work(0), sync(0), flow(), sync(1))
	prove := func(to int, c api.Cert) api.Act { return forge(to, proof(c)) }
	at := func(what string, want []api.Cert, parts ...any) {
		t.Helper()
		same(t, what, run(t, 3, parts...).Nodes[2].Certs, want)
	}
	at("proven", []api.Cert{cert(h, 0, 1, 3)}, l, prove(2, cert(h, 0, 1, 3)))
	at("a voter has not signed", nil, l, prove(2, cert(h, 0, 1, 2)))
	at("one of four has not signed", nil, l, prove(2, cert(h, 0, 1, 2, 3)))
	at("four voters", []api.Cert{cert(h, 0, 1, 2, 3)}, l, sync(2), prove(2, cert(h, 0, 1, 2, 3)))
	at("nobody has signed", nil, prove(2, cert(first(1), 0, 1, 3)))
	at("another header", nil, l, prove(2, cert(first(0, batch(0, 1, "a")), 0, 1, 3)))
	at("the author is the rogue", []api.Cert{cert(first(3), 0, 1, 3)}, forge(0, offer(first(3))), forge(1, offer(first(3))), sync(0), sync(1), prove(2, cert(first(3), 0, 1, 3)))
	at("signed, not by the author", nil, work(0), flow(), prove(2, cert(h, 0, 1, 3)))
	at("twice", []api.Cert{cert(h, 0, 1, 3)}, l, prove(2, cert(h, 0, 1, 3)), prove(2, cert(h, 0, 1, 3)))
	at("twice, with more voters", []api.Cert{cert(h, 0, 1, 3)}, l, prove(2, cert(h, 0, 1, 3)), sync(2), prove(2, cert(h, 0, 1, 2, 3)))
	same(t, "without a rogue", run(t, nobody, l, prove(2, cert(h, 0, 1, 3))), run(t, nobody, l))
}

// Batches need not be there for a certificate.
func TestProofWithoutItsBatches(t *testing.T) {
	h := first(0, batch(0, 1, "a"))
	o := run(t, 3, submit(0, "a"), work(0), sync(0), take(0), take(2), sync(1), forge(2, proof(cert(h, 0, 1, 3))))
	same(t, "certificates", o.Nodes[2].Certs, []api.Cert{cert(h, 0, 1, 3)})
	same(t, "batches", o.Nodes[2].Batches, nil)
}

func TestProofStandsOnItsParents(t *testing.T) {
	// Node 2 is down while the others, and the rogue, go on: it lacks round 1.
	l := script(crash(2, 0))
	l = append(l, turn(0, 1)...)
	l = append(l, sync(0), sync(1), flow())
	l = append(l, forge(0, voteFrom(3, first(0))), forge(1, voteFrom(3, first(1))))
	l = append(l, forge(0, offer(first(3))), forge(1, offer(first(3))), sync(0), sync(1), flow())
	bad := proof(cert(first(3), 0, 1, 3))
	l = append(l, forge(0, bad), forge(1, bad))
	l = append(l, turn(0, 1)...)
	l = append(l, sync(0), sync(1), flow(), start(2))
	round1 := []api.Header{first(0), first(1), first(3)}
	h := next(0, round1)
	o := run(t, 3, l)
	if o.Nodes[0].Round != 2 || !has(o.Signs, sign(0, h)) || !has(o.Signs, sign(1, h)) {
		t.Fatalf("round %d, signs %v", o.Nodes[0].Round, o.Signs)
	}
	var ahead []api.Act
	var certs []api.Cert
	for _, p := range round1 {
		ahead = append(ahead, forge(2, proof(cert(p, 0, 1, 3))))
		certs = append(certs, cert(p, 0, 1, 3))
	}
	late := forge(2, proof(cert(h, 0, 1, 3)))
	same(t, "none is there", run(t, 3, l, late).Nodes[2].Certs, nil)
	same(t, "one is missing", run(t, 3, l, ahead[:2], late).Nodes[2].Certs, certs[:2])
	same(t, "all", run(t, 3, l, ahead, late).Nodes[2].Certs, append(certs, cert(h, 0, 1, 3)))
}

// A dag that is full takes no certificate any more, though there are votes for
// it: three nodes and the rogue are certified in a hundred rounds, but each of
// the three votes for some of the rogue's headers alone, and its table has room.
func TestProofToAFullDag(t *testing.T) {
	honest := emptyRounds(100, 0, 1, 2)
	pairs := [][]int{{0, 1}, {1, 2}, {0, 2}}
	var l, proofs []api.Act
	for r := range 100 {
		l = script(l, turn(0, 1, 2), proofs, turn(0, 1, 2), turn(0, 1, 2))
		bad := first(3)
		if r > 0 {
			bad = next(3, honest[r-1])
		}
		pair := pairs[r%3]
		l = append(l, forge(pair[0], offer(bad)), forge(pair[1], offer(bad)))
		m := proof(cert(bad, pair[0], pair[1], 3))
		proofs = []api.Act{forge(0, m), forge(1, m), forge(2, m)}
	}
	l = script(l, sync(0), sync(1), sync(2), flow(), proofs, times(3, turn(0, 1, 2)))
	o := run(t, 3, l)
	for n, v := range o.Nodes[:3] {
		if len(v.Certs) != api.MaxCerts || v.Round != 101 {
			t.Errorf("node %d: %d certificates, round %d", n, len(v.Certs), v.Round)
		}
		for author := range 3 {
			if h := next(author, append(honest[99], next(3, honest[98]))); !has(o.Signs, sign(n, h)) {
				t.Errorf("node %d has not voted for %d", n, author)
			}
		}
	}
	for _, m := range fleet.Away(3, script(l, sync(0), sync(1), sync(2))) {
		if m.Kind == api.Proof && m.Cert.Header.Round > 100 {
			t.Errorf("on its way: %v", m)
		}
	}
}

// P10.8

// lonely: node 1 is down while the others are certified in so many rounds; it
// comes up then, and knows of nothing.
func lonely(n int) []api.Act {
	return script(crash(1, 0), times(3*n, turn(0, 2, 3)), sync(0), sync(2), sync(3), times(60, lose(0)), start(1))
}

func TestWant(t *testing.T) {
	l := lonely(4)
	o := run(t, nobody, l)
	if o.Away != 0 || len(o.Nodes[2].Certs) != 12 || len(o.Nodes[1].Certs) != 0 {
		t.Fatalf("%d on their way, certificates %v", o.Away, heads(o.Nodes[2].Certs))
	}
	// Its first want goes to node 2.
	o = run(t, nobody, l, turn(1), sync(2), flow())
	same(t, "the first eight", heads(o.Nodes[1].Certs), [][2]int{{0, 1}, {2, 1}, {3, 1}, {0, 2}, {2, 2}, {3, 2}, {0, 3}, {2, 3}})
	for _, r := range []struct{ round, told int }{{1, 8}, {2, 8}, {3, 6}, {4, 3}, {5, 0}, {99, 0}, {api.MaxRound, 0}} {
		for from := range api.Nodes {
			told := r.told
			if from == 2 {
				told = 0
			}
			o := run(t, 1, times(12, turn(0, 2, 3)), sync(0), sync(2), sync(3), times(60, lose(0)), forge(2, want(from, r.round)), sync(2))
			if o.Away != told {
				t.Errorf("a want of round %d from %d: %d on their way, want %d", r.round, from, o.Away, told)
			}
		}
	}
}

func TestWantIsAnsweredInOrder(t *testing.T) {
	for _, round := range []int{1, 2} {
		away := fleet.Away(1, script(times(6, turn(0, 2, 3)), sync(0), sync(2), sync(3), times(60, lose(0)), forge(3, want(0, round)), sync(3)))
		var want [][2]int
		for r := round; r <= 2; r++ {
			want = append(want, [2]int{0, r}, [2]int{2, r}, [2]int{3, r})
		}
		var got [][2]int
		for _, m := range away {
			if m.Kind != api.Proof || m.From != 3 || m.To != 0 {
				t.Errorf("on its way: %v", m)
			}
			got = append(got, [2]int{m.Cert.Header.Author, m.Cert.Header.Round})
		}
		same(t, "told", got, want)
	}
	same(t, "of none", run(t, 3, forge(0, want(1, 1)), sync(0)), run(t, 3))
}

// The batches of a certificate that are there come ahead of it, in its order.
func TestWantIsAnsweredWithBatches(t *testing.T) {
	a, b, c := batch(0, 2, "a"), batch(0, 1, "b"), batch(0, 3, "c")
	h := first(0, a, b, c)
	var l []api.Act
	for _, n := range []int{0, 1} {
		l = append(l, forge(n, bundle(a)), forge(n, bundle(b)), forge(n, bundle(c)))
	}
	// Node 2 has the last two, the other way round, and the certificate.
	l = append(l, forge(2, bundle(c)), forge(2, bundle(b)), work(0), sync(0), flow(), sync(1), lose(0))
	l = append(l, forge(2, proof(cert(h, 0, 1, 3))), sync(2))
	away := fleet.Away(3, script(l, forge(2, want(1, 1)), sync(2)))
	same(t, "on their way", away, []api.Message{
		{From: 2, To: 1, Kind: api.Bundle, Batch: b},
		{From: 2, To: 1, Kind: api.Bundle, Batch: c},
		{From: 2, To: 1, Kind: api.Proof, Cert: cert(h, 0, 1, 3)},
	})
}
