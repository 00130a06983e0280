package fleet_test

import (
	"fmt"
	"testing"

	"sheaves/api"
	"sheaves/fleet"
)

// P10.9

// sent: what node n sends in its last work, behind these acts.
func sent(rogue, n int, parts ...any) []api.Message {
	l := script(parts...)
	before := len(fleet.Away(rogue, script(l, sync(n))))
	return fleet.Away(rogue, script(l, sync(n), work(n), sync(n)))[before:]
}

// toAll others, by their numbers.
func toAll(from int, m api.Message) []api.Message {
	var l []api.Message
	for to := range api.Nodes {
		if to != from {
			l = append(l, message(from, to, m))
		}
	}
	return l
}

func message(from, to int, m api.Message) api.Message {
	m.From, m.To = from, to
	return m
}

func list(parts ...any) []api.Message {
	var l []api.Message
	for _, p := range parts {
		switch x := p.(type) {
		case api.Message:
			l = append(l, x)
		case []api.Message:
			l = append(l, x...)
		default:
			panic("neither a message nor messages")
		}
	}
	return l
}

func wantOf(from, to, round int) api.Message {
	return api.Message{From: from, To: to, Kind: api.Want, Round: round}
}

func TestFirstWork(t *testing.T) {
	firstTurn := []int{1, 2, 1, 1}
	for n := range api.Nodes {
		want := list(toAll(n, offer(first(n))), wantOf(n, firstTurn[n], 1))
		same(t, fmt.Sprint("node ", n), sent(nobody, n), want)
		o := run(t, nobody, work(n))
		v := untouched()
		v.Votes = slots(first(n))
		same(t, fmt.Sprint("node ", n), o.Nodes[n], v)
		for other := range api.Nodes {
			if other != n {
				same(t, "another one", o.Nodes[other], untouched())
			}
		}
	}
}

func TestBatchIsSealed(t *testing.T) {
	var l []api.Act
	for i := range 6 {
		l = append(l, submit(2, fmt.Sprint(i)))
	}
	one, two := batch(2, 1, "0", "1", "2", "3"), batch(2, 2, "4", "5")
	o := run(t, nobody, l, work(2))
	same(t, "batches", o.Nodes[2].Batches, []api.Batch{one})
	same(t, "pool", o.Nodes[2].Pool, []string{"4", "5"})
	want := list(toAll(2, bundle(one)), toAll(2, offer(first(2, one))), wantOf(2, 1, 1))
	same(t, "sent", sent(nobody, 2, l), want)

	o = run(t, nobody, l, work(2), work(2))
	same(t, "batches", o.Nodes[2].Batches, []api.Batch{one, two})
	same(t, "pool", o.Nodes[2].Pool, nil)
	// The header stays as it is: it goes out again, with its batch.
	want = toAll(2, bundle(two))
	for _, to := range []int{0, 1, 3} {
		want = list(want, message(2, to, bundle(one)), message(2, to, offer(first(2, one))))
	}
	same(t, "sent", sent(nobody, 2, l, work(2)), list(want, wantOf(2, 3, 1)))

	o = run(t, nobody, l, work(2), work(2), work(2), submit(2, "0"), work(2))
	same(t, "batches", o.Nodes[2].Batches, []api.Batch{one, two, batch(2, 3, "0")})
}

// A batch that it has already, as the bad node guessed it, is sealed all the same.
func TestBatchThatWasThere(t *testing.T) {
	b := batch(0, 1, "a")
	l := script(forge(0, bundle(b)), submit(0, "a"))
	o := run(t, 3, l, work(0))
	same(t, "batches", o.Nodes[0].Batches, []api.Batch{b})
	same(t, "pool", o.Nodes[0].Pool, nil)
	same(t, "sent", sent(3, 0, l), list(toAll(0, bundle(b)), toAll(0, offer(first(0, b))), wantOf(0, 1, 1)))
	// The next one has the next number.
	o = run(t, 3, l, work(0), submit(0, "b"), work(0))
	same(t, "batches", o.Nodes[0].Batches, []api.Batch{b, batch(0, 2, "b")})
}

func TestNoRoomForABatch(t *testing.T) {
	l := script(manyBundles(0, api.MaxHeld), submit(0, "a"), submit(0, "b"))
	o := run(t, 3, l, work(0))
	same(t, "pool", o.Nodes[0].Pool, []string{"a", "b"})
	if n := len(o.Nodes[0].Batches); n != api.MaxHeld {
		t.Errorf("%d batches", n)
	}
	same(t, "sent", sent(3, 0, l), list(toAll(0, offer(first(0))), wantOf(0, 1, 1)))
	// Is it there, there is no need of room.
	b := batch(0, 1, "a", "b")
	l = script(manyBundles(0, api.MaxHeld-1), forge(0, bundle(b)), submit(0, "a"), submit(0, "b"))
	o = run(t, 3, l, work(0))
	same(t, "pool", o.Nodes[0].Pool, nil)
	same(t, "sent", sent(3, 0, l), list(toAll(0, bundle(b)), toAll(0, offer(first(0, b))), wantOf(0, 1, 1)))
}

// A header names its own batches in their order, as many as it may, and the
// next one those that are left.
func TestHeaderNamesItsOwnBatches(t *testing.T) {
	own := []api.Batch{batch(0, 9, "i"), batch(0, 2, "b"), batch(0, 5, "e"), batch(0, 1, "a"), batch(0, 3, "c")}
	var l []api.Act
	for _, b := range own {
		for n := range 3 {
			l = append(l, forge(n, bundle(batch(1+n%2, b.Number, "other"))), forge(n, bundle(b)))
		}
	}
	h := first(0, own[:3]...)
	same(t, "sent", sent(3, 0, l), list(toAll(0, offer(h)), wantOf(0, 1, 1)))
	o := run(t, 3, l, times(6, turn(0, 1, 2)))
	var second api.Header
	for _, c := range o.Nodes[1].Certs {
		if c.Header.Author == 0 && c.Header.Round == 2 {
			second = c.Header
		}
	}
	same(t, "the next one", second.Batches, batchDigests(own[3:]...))
	o = run(t, 3, l, times(9, turn(0, 1, 2)))
	if o.Nodes[0].Round != 4 {
		t.Fatalf("round %d", o.Nodes[0].Round)
	}
	for _, c := range o.Nodes[0].Certs {
		if c.Header.Round == 3 && c.Header.Author == 0 && len(c.Header.Batches) != 0 {
			t.Errorf("certified twice: %v", c.Header)
		}
	}
}

// Another node's certificate may name its batch: that does not count.
func TestBatchInAnothersCertificate(t *testing.T) {
	b := batch(0, 1, "b")
	bad := first(3, b)
	l := script()
	for n := range 3 {
		l = append(l, forge(n, bundle(b)), forge(n, offer(bad)), sync(n))
	}
	l = append(l, forge(0, proof(cert(bad, 0, 1, 3))), flow())
	o := run(t, 3, l)
	same(t, "certificates", o.Nodes[0].Certs, []api.Cert{cert(bad, 0, 1, 3)})
	same(t, "sent", sent(3, 0, l), list(toAll(0, offer(first(0, b))), wantOf(0, 1, 1)))
}

// A header that was not certified has its batches named again, in a later one.
func TestBatchesOfAHeaderThatIsNotCertified(t *testing.T) {
	l := script(submit(0, "a"), work(0), sync(0), times(20, lose(0)), times(3, turn(1, 2, 3)))
	o := run(t, nobody, l)
	if o.Nodes[0].Round != 2 {
		t.Fatalf("round %d", o.Nodes[0].Round)
	}
	round1 := emptyRound(1, 1, 2, 3)
	h := next(0, round1, batch(0, 1, "a"))
	same(t, "sent", sent(nobody, 0, l), list(toAll(0, offer(h)), wantOf(0, 2, 1)))
}

// Parents are all certificates of the round ahead that it has, by their authors.
func TestParents(t *testing.T) {
	all := script(times(3, turn(3, 1, 0, 2)))
	for n := range api.Nodes {
		o := run(t, nobody, all, work(n), sync(n))
		if h := next(n, emptyRound(1, 0, 1, 2, 3)); !has(o.Signs, sign(n, h)) {
			t.Errorf("node %d: %v", n, o.Signs[len(o.Signs)-1])
		}
	}
	some := script(crash(1, 0), times(3, turn(3, 0, 2)))
	o := run(t, nobody, some, work(2), sync(2))
	if h := next(2, emptyRound(1, 0, 2, 3)); !has(o.Signs, sign(2, h)) {
		t.Errorf("three parents: %v", o.Signs[len(o.Signs)-1])
	}
	o = run(t, nobody, some, times(3, turn(3, 0, 2)), work(2), sync(2))
	if h := next(2, emptyRound(2, 0, 2, 3)); !has(o.Signs, sign(2, h)) {
		t.Errorf("of round 3: %v", o.Signs[len(o.Signs)-1])
	}
}

// Until it is certified a header is offered again to those that did not vote,
// each behind the batches that are there.
func TestOfferedAgain(t *testing.T) {
	a, b := batch(1, 1, "a"), batch(1, 2, "b")
	h := first(1, a, b)
	l := script(forge(1, bundle(a)), forge(1, bundle(b)), work(1), sync(1), times(4, lose(0)))
	to := func(n int) []api.Message {
		return list(message(1, n, bundle(a)), message(1, n, bundle(b)), message(1, n, offer(h)))
	}
	same(t, "nobody has voted", sent(3, 1, l), list(to(0), to(2), to(3), wantOf(1, 3, 1)))
	same(t, "one has", sent(3, 1, l, forge(1, voteFrom(3, h))), list(to(0), to(2), wantOf(1, 3, 1)))
	two := script(l, forge(0, bundle(a)), forge(0, bundle(b)), forge(0, offer(h)), sync(0), flow())
	same(t, "another one has", sent(3, 1, two), list(to(2), to(3), wantOf(1, 3, 1)))
	three := script(two, forge(1, voteFrom(3, h)))
	same(t, "certified", sent(3, 1, three), []api.Message{wantOf(1, 3, 1)})
	// It is not written again, and not voted for again.
	o := run(t, 3, times(4, work(1)), crash(1, api.MaxTape))
	same(t, "votes", o.Nodes[1].Votes, slots(first(1)))
}

// Of an own header that is certified, in a round that goes on, nothing is sent.
func TestNothingIsDue(t *testing.T) {
	l := script(work(0), sync(0), flow(), sync(1), sync(2), flow(), sync(0), flow())
	o := run(t, nobody, l)
	if o.Nodes[0].Round != 1 || len(o.Nodes[0].Certs) != 1 {
		t.Fatalf("round %d, certificates %v", o.Nodes[0].Round, o.Nodes[0].Certs)
	}
	same(t, "sent", sent(nobody, 0, l), []api.Message{wantOf(0, 2, 1)})
	same(t, "votes", run(t, nobody, l, work(0)).Nodes[0].Votes, o.Nodes[0].Votes)
}

func TestTurnsComeRound(t *testing.T) {
	want := [][]int{
		{1, 2, 3, 1, 2, 3, 1, 2, 3},
		{2, 3, 0, 2, 3, 0, 2, 3, 0},
		{1, 3, 0, 1, 3, 0, 1, 3, 0},
		{1, 2, 0, 1, 2, 0, 1, 2, 0},
	}
	for n := range api.Nodes {
		var got []int
		for i := range 9 {
			l := sent(nobody, n, times(i, work(n)))
			last := l[len(l)-1]
			same(t, "the last one", last, wantOf(n, last.To, 1))
			got = append(got, last.To)
		}
		same(t, fmt.Sprint("turns of ", n), got, want[n])
	}
}

// The round ahead of the next one is asked for, but 1 at least.
func TestWantedRound(t *testing.T) {
	for rounds, want := range []int{1, 1, 2, 3, 4} {
		l := sent(nobody, 3, times(3*rounds, turn(0, 1, 2, 3)))
		if last := l[len(l)-1]; last.Kind != api.Want || last.Round != want {
			t.Errorf("behind %d rounds: %v", rounds, last)
		}
	}
}

// Is a batch of an earlier certificate missing, that round is asked for.
func TestWantedBatches(t *testing.T) {
	certs := func(parts ...any) []api.Cert { return run(t, 3, parts...).Nodes[2].Certs }
	wanted := func(what string, want int, parts ...any) {
		t.Helper()
		l := sent(3, 2, parts...)
		if last := l[len(l)-1]; last.Kind != api.Want || last.Round != want {
			t.Errorf("%s: %v, want %d", what, last, want)
		}
	}
	// Nodes 0 and 1 make a batch in each of five rounds; node 2 gets none of
	// them while it is down, and all certificates from node 0 then.
	var l []api.Act
	var missed []api.Batch
	l = append(l, crash(2, 0))
	var parents []api.Header
	for r := 1; r <= 5; r++ {
		b := batch(0, r, fmt.Sprint("t", r))
		missed = append(missed, b)
		var headers []api.Header
		l = append(l, submit(0, b.Txs[0]))
		l = append(l, turn(0, 1)...)
		l = append(l, sync(0), sync(1), flow())
		for n := range 2 {
			h := api.Header{Author: n, Round: r, Parents: digestsOf(parents)}
			if n == 0 {
				h.Batches = batchDigests(b)
			}
			headers = append(headers, h)
			l = append(l, forge(n, voteFrom(3, h)))
		}
		bad := api.Header{Author: 3, Round: r, Parents: digestsOf(parents)}
		headers = append(headers, bad)
		l = append(l, forge(0, offer(bad)), forge(1, offer(bad)), sync(0), sync(1), flow())
		l = append(l, forge(0, proof(cert(bad, 0, 1, 3))), forge(1, proof(cert(bad, 0, 1, 3))))
		parents = headers
	}
	l = append(l, start(2))
	for _, c := range run(t, 3, l).Nodes[0].Certs {
		l = append(l, forge(2, proof(c)))
	}
	if n := len(certs(l)); n != 15 {
		t.Fatalf("%d certificates", n)
	}
	hold := func(rounds ...int) []api.Act {
		var l []api.Act
		for _, r := range rounds {
			l = append(l, forge(2, bundle(missed[r-1])))
		}
		return l
	}
	wanted("none is there", 1, l)
	wanted("from the second one on", 2, l, hold(1))
	wanted("the third one", 3, l, hold(1, 2, 4, 5))
	wanted("the first and the third one", 1, l, hold(2, 4, 5))
	wanted("the second and the fourth one", 2, l, hold(1, 3, 5))
	wanted("the last one", 5, l, hold(1, 2, 3, 4))
	wanted("all are there", 5, l, hold(5, 4, 3, 2, 1))
}

func digestsOf(l []api.Header) [][]byte {
	var digests [][]byte
	for _, h := range l {
		digests = append(digests, headerDigest(h))
	}
	return digests
}

// A full table lets no header be made any more.
func TestWorkWithAFullTable(t *testing.T) {
	calm := script(times(300, turn(0, 1, 2, 3)))
	o := run(t, nobody, calm, work(0), sync(0), work(0))
	if v := o.Nodes[0]; v.Round != 101 || len(v.Votes) != api.MaxSlots || v.Votes[api.MaxSlots-1].Round != 100 {
		t.Fatalf("round %d, %d votes", v.Round, len(v.Votes))
	}
	for _, m := range sent(nobody, 0, calm) {
		if m.Kind != api.Want || m.Round != 100 {
			t.Errorf("sent: %v", m)
		}
	}
}
