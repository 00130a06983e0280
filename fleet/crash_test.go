package fleet_test

import (
	"fmt"
	"testing"

	"sheaves/api"
)

// P10.10

// left: what a crash leaves of node 0, behind these acts.
func left(t *testing.T, rogue, keep int, parts ...any) api.View {
	t.Helper()
	v := run(t, rogue, script(parts...), crash(0, keep)).Nodes[0]
	if v.Up || len(v.Pool) != 0 {
		t.Errorf("behind a crash: up %v, pool %v", v.Up, v.Pool)
	}
	return v
}

// A batch of one byte has a record of 12 bytes, an offer with one digest one of
// 43: each is kept whole, or not at all.
func TestCrashKeepsWholeRecords(t *testing.T) {
	b := batch(0, 1, "a")
	h := first(0, b)
	nothing := api.View{Round: 1}
	bundled := api.View{Round: 1, Batches: []api.Batch{b}}
	offered := api.View{Round: 1, Batches: []api.Batch{b}, Votes: slots(h)}
	l := script(submit(0, "a"), work(0))
	for keep := range 70 {
		want := nothing
		if keep >= 12 {
			want = bundled
		}
		if keep >= 55 {
			want = offered
		}
		same(t, fmt.Sprint("kept ", keep), left(t, nobody, keep, l), want)
		same(t, fmt.Sprint("synced, kept ", keep), left(t, nobody, keep, l, sync(0)), offered)
	}
	same(t, "all", left(t, nobody, api.MaxTape, l), offered)
	// Synced is the batch, and the offer is not.
	later := script(forge(0, bundle(b)), sync(0), work(0))
	same(t, "synced alone", left(t, 3, 0, later), bundled)
	same(t, "all but a byte", left(t, 3, 42, later), bundled)
	same(t, "all of it", left(t, 3, 43, later), offered)
}

// A record of each kind.
func TestCrashRecalls(t *testing.T) {
	b := batch(1, 4, "b")
	l := script(forge(0, bundle(b)), forge(0, offer(first(3, b))), work(0), sync(0), flow(), sync(1), flow(), forge(0, voteFrom(3, first(0))))
	want := api.View{
		Round:   1,
		Batches: []api.Batch{b},
		Votes:   slots(first(3, b), first(0)),
		Certs:   []api.Cert{cert(first(0), 0, 1, 3)},
	}
	same(t, "kept all", left(t, 3, api.MaxTape, l), want)
	want.Certs = nil
	same(t, "kept nothing", left(t, 3, 0, l), want)
}

// What was synced is there behind every crash, and comes up with a start.
func TestCrashTakesNothingThatWasSynced(t *testing.T) {
	l := script(busy(), sync(2))
	before := run(t, nobody, l)
	after := run(t, nobody, l, crash(2, 0), start(2))
	before.Nodes[2].Pool = nil
	same(t, "started again", after, before)
	again := run(t, nobody, l, times(5, crash(2, 0), start(2)))
	same(t, "again and again", again, before)
}

func TestSecondCrash(t *testing.T) {
	l := script(submit(0, "a"), work(0), sync(0), work(0))
	once := run(t, nobody, l, crash(0, 0))
	same(t, "a node that is down", run(t, nobody, l, crash(0, 0), crash(0, 0), crash(0, api.MaxTape)), once)
	same(t, "started in between", run(t, nobody, l, crash(0, 0), start(0), crash(0, 0)), once)
	// What a crash left is safe from the next one.
	kept := run(t, nobody, submit(0, "a"), work(0), crash(0, 20))
	same(t, "kept", kept.Nodes[0].Batches, []api.Batch{batch(0, 1, "a")})
	same(t, "kept by the next one", run(t, nobody, submit(0, "a"), work(0), crash(0, 20), start(0), crash(0, 0)), kept)
}

// What is written behind a record that was cut off is recalled, too.
func TestCrashCutsTheTape(t *testing.T) {
	l := script(submit(0, "a"), work(0), crash(0, 30), start(0), forge(0, bundle(batch(1, 1, "b"))), work(0), sync(0))
	want := []api.Batch{batch(0, 1, "a"), batch(1, 1, "b")}
	v := left(t, 3, 0, l)
	same(t, "batches", v.Batches, want)
	same(t, "votes", v.Votes, slots(first(0, want[0])))
}

func TestCrashEmptiesThePool(t *testing.T) {
	l := script(submit(0, "a"), submit(0, "b"), sync(0))
	same(t, "left", left(t, nobody, api.MaxTape, l), api.View{Round: 1})
	o := run(t, nobody, l, crash(0, 9), start(0), submit(0, "a"))
	same(t, "pool", o.Nodes[0].Pool, []string{"a"})
	same(t, "codes", o.Codes, []api.Errno{api.OK, api.OK, api.OK})
}

// What waits is lost with a crash, what is on its way is not.
func TestCrashLosesWhatWaits(t *testing.T) {
	o := run(t, nobody, work(0), crash(0, api.MaxTape), start(0), sync(0))
	if o.Away != 0 || len(o.Signs) != 0 {
		t.Errorf("%d on their way, signs %v", o.Away, o.Signs)
	}
	if o := run(t, nobody, work(0), sync(0), work(0), crash(0, 0)); o.Away != 4 {
		t.Errorf("%d on their way", o.Away)
	}
}

// numberOf the batch that node 0 seals next, behind these acts and a crash; 0:
// it can't.
func numberOf(t *testing.T, rogue int, parts ...any) int {
	t.Helper()
	v := run(t, rogue, script(parts...), crash(0, 0), start(0), submit(0, "next"), work(0)).Nodes[0]
	for _, b := range v.Batches {
		if b.Txs[0] == "next" {
			return b.Number
		}
	}
	same(t, "pool", v.Pool, []string{"next"})
	return 0
}

func TestNextNumberBehindACrash(t *testing.T) {
	held := func(author int, numbers ...int) []api.Act {
		var l []api.Act
		for _, n := range numbers {
			l = append(l, forge(0, bundle(batch(author, n, "held"))))
		}
		return append(l, sync(0))
	}
	for i, c := range []struct {
		want  int
		parts []api.Act
	}{
		{1, nil},
		{1, script(submit(0, "a"), work(0))},
		{2, script(submit(0, "a"), work(0), sync(0))},
		{3, script(submit(0, "a"), work(0), submit(0, "b"), work(0), sync(0), submit(0, "c"), work(0))},
		{1, held(1, 7)},
		{8, held(0, 7)},
		{8, held(0, 7, 3, 1)},
		{8, held(0, 1, 7, 3)},
		{4, script(held(1, 9), held(0, 3), held(2, 9))},
		{api.MaxRound, held(0, api.MaxRound-1)},
		{0, held(0, api.MaxRound)},
	} {
		if got := numberOf(t, 3, c.parts); got != c.want {
			t.Errorf("case %d: %d, want %d", i, got, c.want)
		}
	}
}

// A node is never certified twice, as it offers again what it had offered.
func TestOwnHeaderIsRecalled(t *testing.T) {
	a, b := batch(0, 1, "a"), batch(0, 2, "b")
	h := first(0, a)
	l := script(submit(0, "a"), work(0), sync(0), times(7, lose(0)), crash(0, 0), start(0), submit(0, "b"))
	var again []api.Message
	for to := 1; to < api.Nodes; to++ {
		again = list(again, message(0, to, bundle(a)), message(0, to, offer(h)))
	}
	// Its turn is the first one again.
	same(t, "sent", sent(nobody, 0, l), list(toAll(0, bundle(b)), again, wantOf(0, 1, 1)))
	// An offer that was not kept is made anew.
	l = script(work(0), crash(0, 0), start(0), submit(0, "a"))
	same(t, "sent", sent(nobody, 0, l), list(toAll(0, bundle(a)), toAll(0, offer(h)), wantOf(0, 1, 1)))
}

// It alone is the voters then: votes must come again.
func TestVotersAreForgotten(t *testing.T) {
	vote := func(n int) api.Act { return forge(0, voteFrom(n, first(0))) }
	l := script(offered(), vote(1), crash(0, 0), start(0))
	certOf(t, "one vote", 3, nil, l, vote(3))
	certOf(t, "two votes", 3, []api.Cert{cert(first(0), 0, 1, 3)}, l, vote(3), vote(1))
	same(t, "sent", sent(3, 0, l), list(toAll(0, offer(first(0))), wantOf(0, 1, 1)))
}

// Of several headers of its own the last one is its own.
func TestTheLastHeaderIsRecalled(t *testing.T) {
	l := script(times(3, turn(0, 1, 2)), work(0), sync(0), crash(0, 0), start(0))
	h := next(0, emptyRound(1, 0, 1, 2))
	same(t, "sent", sent(3, 0, l), list(toAll(0, offer(h)), wantOf(0, 1, 1)))
}

// Its vote outlasts a crash, if it was synced; else it was not told, either.
func TestVoteIsRecalled(t *testing.T) {
	a, b := batch(1, 1, "a"), batch(1, 1, "b")
	both := script(forge(0, bundle(a)), forge(0, bundle(b)), sync(0))
	one, two := forge(0, offer(first(3, a))), forge(0, offer(first(3, b)))
	votes := func(parts ...any) []api.Slot { return run(t, 3, both, script(parts...), sync(0)).Nodes[0].Votes }
	same(t, "synced", votes(one, sync(0), crash(0, 0), start(0), two), slots(first(3, a)))
	same(t, "kept", votes(one, crash(0, 41), start(0), two), slots(first(3, a)))
	same(t, "not kept", votes(one, crash(0, 40), start(0), two), slots(first(3, b)))
	// Its own vote stands with its offer.
	same(t, "its own", left(t, 3, 0, both, work(0), sync(0)).Votes, slots(first(0)))
}

func TestCrashOfAFullNode(t *testing.T) {
	l := script(manyBundles(0, api.MaxHeld), sync(0))
	if v := left(t, 3, 0, l); len(v.Batches) != api.MaxHeld {
		t.Errorf("%d batches", len(v.Batches))
	}
	calm := script(times(api.MaxActs/9-1, turn(0, 1, 2, 3)), sync(0))
	before := run(t, nobody, calm).Nodes[0]
	before.Up = false
	same(t, "a full dag and a full table", left(t, nobody, 0, calm), before)
	if len(before.Certs) != api.MaxCerts || len(before.Votes) != api.MaxSlots {
		t.Errorf("%d certificates, %d votes", len(before.Certs), len(before.Votes))
	}
}
