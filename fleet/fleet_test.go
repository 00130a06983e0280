package fleet_test

import (
	"fmt"
	"math"
	"reflect"
	"slices"
	"strings"
	"testing"

	"sheaves/api"
	"sheaves/fleet"
)

// The document's example of the whole.
func TestExample(t *testing.T) {
	calm := times(3, turn(0, 1, 2, 3))
	o := run(t, nobody, calm)
	for n, v := range o.Nodes {
		if !v.Up || v.Round != 2 || len(v.Certs) != 4 {
			t.Errorf("node %d: %v, round %d, %d certificates", n, v.Up, v.Round, len(v.Certs))
		}
		for _, h := range emptyRound(1, 0, 1, 2, 3) {
			one := func(c api.Cert) bool { return reflect.DeepEqual(slot(c.Header), slot(h)) }
			if !slices.ContainsFunc(v.Certs, one) {
				t.Errorf("node %d has no certificate of %d", n, h.Author)
			}
		}
	}
	for n := range api.Nodes {
		down := run(t, nobody, calm, sync(n), crash(n, 0))
		want := run(t, nobody, calm, sync(n))
		want.Nodes[n].Up = false
		same(t, "behind a crash", down, want)
	}
}

// P10.1

func TestBeginning(t *testing.T) {
	for _, l := range [][]api.Act{nil, {}} {
		o, e := fleet.Run(nobody, l)
		want := api.Outcome{Nodes: []api.View{untouched(), untouched(), untouched(), untouched()}}
		if e != api.OK {
			t.Errorf("no acts: %d", e)
		}
		same(t, "no acts", o, want)
	}
}

func TestOfTheRogueNothingIsTold(t *testing.T) {
	for rogue := range api.Nodes {
		o := run(t, rogue)
		want := api.Outcome{Nodes: []api.View{untouched(), untouched(), untouched(), untouched()}}
		want.Nodes[rogue] = api.View{}
		same(t, "a rogue", o, want)
	}
}

func TestActsForTheRogueDoNothing(t *testing.T) {
	for rogue := range api.Nodes {
		want := run(t, rogue)
		for _, l := range [][]api.Act{
			{work(rogue), sync(rogue)},
			{crash(rogue, 0), crash(rogue, api.MaxTape)},
			{start(rogue)},
			{crash(rogue, 0), start(rogue), work(rogue), sync(rogue)},
			{forge(rogue, bundle(batch(0, 1, "a"))), sync(rogue)},
			{forge(rogue, offer(first((rogue+1)%4))), sync(rogue)},
		} {
			same(t, "the rogue acts", run(t, rogue, l), want)
		}
		want.Codes = []api.Errno{api.ErrState, api.ErrState, api.ErrState}
		got := run(t, rogue, submit(rogue, "a"), submit(rogue, ""), start(rogue), submit(rogue, "b"))
		same(t, "a submit to the rogue", got, want)
	}
}

// Three nodes are enough; what they send to the rogue is lost.
func TestRogueIsSilent(t *testing.T) {
	for rogue := range api.Nodes {
		o := run(t, rogue, times(3, turn(0, 1, 2, 3)))
		others := slices.Delete([]int{0, 1, 2, 3}, rogue, rogue+1)
		for _, n := range others {
			v := o.Nodes[n]
			if v.Round != 2 || len(v.Certs) != 3 || len(v.Votes) != 3 {
				t.Errorf("rogue %d, node %d: round %d, %d certificates, %d votes", rogue, n, v.Round, len(v.Certs), len(v.Votes))
			}
			for _, c := range v.Certs {
				same(t, "voters", c.Voters, others)
			}
		}
		same(t, "the rogue", o.Nodes[rogue], api.View{})
		for _, s := range o.Signs {
			if s.Node == rogue || s.Slot.Author == rogue {
				t.Errorf("rogue %d: %v", rogue, s)
			}
		}
	}
}

// P10.2

func TestWhatIsSentWaitsForASync(t *testing.T) {
	for n := range api.Nodes {
		o := run(t, nobody, work(n))
		if o.Away != 0 || len(o.Signs) != 0 {
			t.Errorf("ahead of a sync: %d on their way, signs %v", o.Away, o.Signs)
		}
		o = run(t, nobody, work(n), sync(n))
		if o.Away != 4 {
			t.Errorf("behind a sync: %d on their way", o.Away)
		}
		same(t, "signs", o.Signs, []api.Sign{sign(n, first(n))})
		same(t, "a second sync", run(t, nobody, work(n), sync(n), sync(n)), o)
		same(t, "a sync of another one", run(t, nobody, work(n), sync((n+1)%4)), run(t, nobody, work(n)))
	}
}

func TestSentInOrder(t *testing.T) {
	b := batch(1, 1, "a")
	h := first(1, b)
	l := fleet.Away(nobody, script(submit(1, "a"), work(1), sync(1), work(3), sync(3)))
	want := []api.Message{
		{From: 1, To: 0, Kind: api.Bundle, Batch: b},
		{From: 1, To: 2, Kind: api.Bundle, Batch: b},
		{From: 1, To: 3, Kind: api.Bundle, Batch: b},
		{From: 1, To: 0, Kind: api.Offer, Header: h},
		{From: 1, To: 2, Kind: api.Offer, Header: h},
		{From: 1, To: 3, Kind: api.Offer, Header: h},
		{From: 1, To: 2, Kind: api.Want, Round: 1},
		{From: 3, To: 0, Kind: api.Offer, Header: first(3)},
		{From: 3, To: 1, Kind: api.Offer, Header: first(3)},
		{From: 3, To: 2, Kind: api.Offer, Header: first(3)},
		{From: 3, To: 1, Kind: api.Want, Round: 1},
	}
	same(t, "on their way", l, want)
}

func TestSignsInTheirOrder(t *testing.T) {
	o := run(t, nobody, work(2), sync(2), work(0), sync(0), flow(), sync(1), sync(3), sync(2), sync(0))
	want := []api.Sign{
		sign(2, first(2)), sign(0, first(0)),
		sign(1, first(2)), sign(1, first(0)),
		sign(3, first(2)), sign(3, first(0)),
		sign(2, first(0)), sign(0, first(2)),
	}
	same(t, "signs", o.Signs, want)
	// The same once more is signed once.
	again := run(t, nobody, work(2), sync(2), work(2), sync(2), flow(), sync(1))
	same(t, "signs of offers that come twice", again.Signs, []api.Sign{sign(2, first(2)), sign(1, first(2))})
}

// Each work of a lonely node sends three offers and a want.
func TestMaxOutWait(t *testing.T) {
	for works, want := range map[int]int{1: 4, 99: 396, 100: 400, 101: 400, 300: 400} {
		if o := run(t, nobody, times(works, work(0)), sync(0)); o.Away != want {
			t.Errorf("%d works: %d on their way, want %d", works, o.Away, want)
		}
	}
	// 396, three bundles, and the first one of three offers.
	full := script(times(99, work(0)), submit(0, "a"), work(0), sync(0))
	l := fleet.Away(nobody, full)
	same(t, "the last ones", l[398:], []api.Message{
		{From: 0, To: 3, Kind: api.Bundle, Batch: batch(0, 1, "a")},
		{From: 0, To: 1, Kind: api.Offer, Header: first(0)},
	})
	// Then there is room again.
	if o := run(t, nobody, full, flow(), work(0), sync(0)); o.Away != 4 {
		t.Errorf("behind a sync: %d on their way", o.Away)
	}
}

// A vote that finds no room to wait is not signed, either.
func TestVoteAmongMaxOut(t *testing.T) {
	for works, want := range map[int]bool{1: true, 99: true, 100: false, 101: false} {
		o := run(t, 3, times(works, work(0)), forge(0, offer(first(3))), sync(0))
		if has(o.Signs, sign(0, first(3))) != want {
			t.Errorf("%d works: signs %v", works, o.Signs)
		}
		same(t, "votes", o.Nodes[0].Votes, slots(first(0), first(3)))
	}
	// 397 wait, 398, 399, and 400.
	l := script(times(99, work(0)))
	for more := 1; more <= 5; more++ {
		l = append(l, forge(0, offer(first(3))))
		if o := run(t, 3, l, sync(0)); o.Away != min(396+more, api.MaxOut) {
			t.Errorf("%d votes: %d on their way", more, o.Away)
		}
	}
}

func TestMaxOutOnTheirWay(t *testing.T) {
	l := script(times(99, work(0)), sync(0), work(1), sync(1))
	if o := run(t, nobody, l); o.Away != api.MaxOut {
		t.Fatalf("%d on their way", o.Away)
	}
	o := run(t, nobody, l, work(2), sync(2))
	if o.Away != api.MaxOut || !has(o.Signs, sign(2, first(2))) {
		t.Errorf("one more: %d on their way, signs %v", o.Away, o.Signs)
	}
	// What finds no room does not wait any more.
	if o := run(t, nobody, l, work(2), sync(2), lose(0), sync(2)); o.Away != api.MaxOut-1 {
		t.Errorf("a second sync: %d on their way", o.Away)
	}
	away := fleet.Away(nobody, script(l, lose(0), lose(0), work(2), sync(2)))
	same(t, "the last ones", away[397:], []api.Message{
		{From: 1, To: 2, Kind: api.Want, Round: 1},
		{From: 2, To: 0, Kind: api.Offer, Header: first(2)},
		{From: 2, To: 1, Kind: api.Offer, Header: first(2)},
	})
}

// A want in its own name: what would answer it is sent to itself.
func TestWhatIsSentToItselfIsLost(t *testing.T) {
	l := script(times(3, turn(0, 1, 2)), drained())
	if o := run(t, 3, l); o.Away != 0 || len(o.Nodes[0].Certs) != 3 {
		t.Fatalf("%d on their way, certificates %v", o.Away, o.Nodes[0].Certs)
	}
	for from, told := range []int{0, 3, 3, 3} {
		if o := run(t, 3, l, forge(0, want(from, 1)), sync(0)); o.Away != told {
			t.Errorf("a want from %d: %d on their way, want %d", from, o.Away, told)
		}
	}
}

// P10.3

func TestWhatComesToANodeThatIsDownIsLost(t *testing.T) {
	o := run(t, nobody, submit(0, "a"), work(0), sync(0), crash(1, 0), flow(), start(1))
	same(t, "node 1", o.Nodes[1], untouched())
	if o.Away != 0 {
		t.Errorf("%d on their way", o.Away)
	}
	same(t, "node 2", o.Nodes[2].Votes, slots(first(0, batch(0, 1, "a"))))
	o = run(t, 3, crash(1, 0), forge(1, bundle(batch(0, 1, "a"))), start(1))
	same(t, "forged, to a node that is down", o.Nodes[1], untouched())
	o = run(t, nobody, work(0), sync(0), crash(1, 0), take(0), start(1))
	same(t, "taken, to a node that is down", o.Nodes[1], untouched())
	if o.Away != 3 {
		t.Errorf("%d on their way", o.Away)
	}
}

// P10.11

func TestSubmit(t *testing.T) {
	o := run(t, nobody, submit(0, "b"), submit(0, "a"), submit(0, "b"), submit(3, "b"), submit(0, ""),
		submit(0, strings.Repeat("x", 20)), submit(0, strings.Repeat("x", 21)), submit(0, "\x00"))
	same(t, "codes", o.Codes, []api.Errno{api.OK, api.OK, api.ErrTwice, api.OK, api.ErrSize, api.OK, api.ErrSize, api.OK})
	if want := []string{"b", "a", strings.Repeat("x", 20), "\x00"}; !slices.Equal(o.Nodes[0].Pool, want) {
		t.Errorf("pool %q, want %q", o.Nodes[0].Pool, want)
	}
	if want := []string{"b"}; !slices.Equal(o.Nodes[3].Pool, want) {
		t.Errorf("pool %q, want %q", o.Nodes[3].Pool, want)
	}
	if o.Away != 0 || len(o.Signs) != 0 || len(o.Nodes[1].Pool)+len(o.Nodes[2].Pool) != 0 {
		t.Errorf("a submit did more: %v", o)
	}
}

func TestSubmitToAFullPool(t *testing.T) {
	var l []api.Act
	var want []api.Errno
	for i := range api.MaxPool {
		l, want = append(l, submit(1, fmt.Sprint(i))), append(want, api.OK)
	}
	l = append(l, submit(1, "7"), submit(1, "more"), submit(1, ""), submit(2, "more"))
	want = append(want, api.ErrTwice, api.ErrFull, api.ErrSize, api.OK)
	o := run(t, nobody, l)
	same(t, "codes", o.Codes, want)
	if len(o.Nodes[1].Pool) != api.MaxPool {
		t.Errorf("%d transactions", len(o.Nodes[1].Pool))
	}
	// A batch makes room.
	o = run(t, nobody, l, work(1), submit(1, "more"), submit(1, "0"))
	same(t, "codes behind a batch", o.Codes[len(want):], []api.Errno{api.OK, api.OK})
	same(t, "pool", o.Nodes[1].Pool[:1], []string{"4"})
}

func TestSubmitToANodeThatIsDown(t *testing.T) {
	o := run(t, nobody, crash(2, 0), submit(2, "a"), submit(2, ""), submit(1, "a"), start(2), submit(2, "b"))
	same(t, "codes", o.Codes, []api.Errno{api.ErrState, api.ErrState, api.OK, api.OK})
	same(t, "pool", o.Nodes[2].Pool, []string{"b"})
}

// A node that is down does not work, sync or crash.
func TestActsOfANodeThatIsDown(t *testing.T) {
	for n := range api.Nodes {
		down := run(t, nobody, crash(n, 0))
		want := run(t, nobody)
		want.Nodes[n].Up = false
		same(t, "down", down, want)
		for _, l := range [][]api.Act{{work(n)}, {work(n), sync(n)}, {sync(n)}, {crash(n, 9)}} {
			same(t, "an act of a node that is down", run(t, nobody, crash(n, 0), l), want)
		}
		same(t, "started", run(t, nobody, crash(n, 0), work(n), start(n)), run(t, nobody))
	}
}

func TestStartOfANodeThatIsUp(t *testing.T) {
	l := script(submit(1, "a"), work(1), sync(1), take(0), take(3), submit(1, "b"))
	for n := range api.Nodes {
		same(t, "started", run(t, nobody, l, start(n)), run(t, nobody, l))
	}
	// Nothing that waits is lost, and its turn stays.
	same(t, "on their way", fleet.Away(nobody, script(work(1), start(1), work(1), sync(1))), fleet.Away(nobody, script(work(1), work(1), sync(1))))
}

// Of these four, to 1, 2, 3 and 1, the first three are offers.
func fourAway() []api.Act { return script(work(0), sync(0)) }

func voters(o api.Outcome) []int {
	var l []int
	for n, v := range o.Nodes {
		if n > 0 && len(v.Votes) > 0 {
			l = append(l, n)
		}
	}
	return l
}

func TestPicksGoRound(t *testing.T) {
	for _, pick := range []int{0, 1, 2, 3, 4, 5, 6, 7, 8, 13, 399, api.MaxTape - 1, api.MaxTape} {
		var want []int
		if pick%4 < 3 {
			want = []int{pick%4 + 1}
		}
		o := run(t, nobody, fourAway(), take(pick))
		same(t, fmt.Sprint("voters of pick ", pick), voters(o), want)
		if o.Away != 3 {
			t.Errorf("take %d: %d on their way", pick, o.Away)
		}
		all := fleet.Away(nobody, fourAway())
		rest := slices.Delete(slices.Clone(all), pick%4, pick%4+1)
		same(t, "taken", fleet.Away(nobody, script(fourAway(), take(pick))), rest)
		same(t, "lost", fleet.Away(nobody, script(fourAway(), lose(pick))), rest)
		same(t, "copied", fleet.Away(nobody, script(fourAway(), copyOf(pick))), append(all, all[pick%4]))
		if o := run(t, nobody, fourAway(), lose(pick), copyOf(pick)); len(voters(o)) != 0 {
			t.Errorf("lost, and another one copied: voters %v", voters(o))
		}
	}
}

func TestNoneOnTheirWay(t *testing.T) {
	for _, a := range []api.Act{take(0), lose(0), copyOf(0), take(7), lose(api.MaxTape), copyOf(9), flow()} {
		same(t, "nothing", run(t, nobody, a), run(t, nobody))
		same(t, "nothing but what waits", run(t, nobody, work(0), a), run(t, nobody, work(0)))
		same(t, "nothing any more", run(t, nobody, fourAway(), times(4, lose(0)), a), run(t, nobody, fourAway(), times(4, lose(0))))
	}
}

func TestCopyIfThereIsRoom(t *testing.T) {
	l := script(times(99, work(0)), sync(0))
	for copies, want := range []int{396, 397, 398, 399, 400, 400, 400} {
		if o := run(t, nobody, l, times(copies, copyOf(1))); o.Away != want {
			t.Errorf("%d copies: %d on their way, want %d", copies, o.Away, want)
		}
	}
	away := fleet.Away(nobody, script(l, copyOf(1), copyOf(2), copyOf(3), copyOf(0), copyOf(3)))
	to := []int{away[396].To, away[397].To, away[398].To, away[399].To}
	same(t, "the copies", to, []int{2, 3, 1, 1})
	same(t, "the last one", away[399].Kind, api.Offer)
}

// A batch comes ahead of the offer that names it, and that is voted for.
func TestFlowInOrder(t *testing.T) {
	l := script(submit(0, "a"), work(0), sync(0))
	h := first(0, batch(0, 1, "a"))
	o := run(t, nobody, l, flow())
	for n := 1; n < api.Nodes; n++ {
		same(t, "votes", o.Nodes[n].Votes, slots(h))
	}
	if o.Away != 0 {
		t.Errorf("%d on their way", o.Away)
	}
	// The offer to node 1 goes behind all.
	o = run(t, nobody, script(l, copyOf(3), lose(3), flow()))
	same(t, "votes", o.Nodes[1].Votes, slots(h))
	// The bundle to node 1 does.
	o = run(t, nobody, script(l, copyOf(0), lose(0), flow()))
	same(t, "votes", o.Nodes[1].Votes, nil)
	same(t, "batches", o.Nodes[1].Batches, []api.Batch{batch(0, 1, "a")})
}

// What those send that hear of it waits.
func TestFlowIsOfWhatIsOnItsWayNow(t *testing.T) {
	o := run(t, nobody, fourAway(), flow(), flow(), flow())
	if o.Away != 0 || len(o.Nodes[0].Certs) != 0 {
		t.Errorf("%d on their way, certificates %v", o.Away, o.Nodes[0].Certs)
	}
	o = run(t, nobody, fourAway(), flow(), sync(1))
	if o.Away != 1 {
		t.Errorf("%d on their way", o.Away)
	}
}

func TestForge(t *testing.T) {
	b := batch(2, 5, "forged")
	m := api.Message{From: 1, To: 2, Kind: api.Bundle, Batch: b}
	for rogue := range api.Nodes {
		for to := range api.Nodes {
			o := run(t, rogue, forge(to, m))
			want := run(t, rogue)
			if to != rogue {
				want.Nodes[to].Batches = []api.Batch{b}
			}
			same(t, "forged", o, want)
		}
	}
	for to := range api.Nodes {
		same(t, "forged by nobody", run(t, nobody, forge(to, m)), run(t, nobody))
	}
}

func TestForgeOfNoMessage(t *testing.T) {
	good := forge(0, bundle(batch(0, 1, "a"))).Text
	for _, text := range []string{
		"", "x", good[:len(good)-1], good + "\x00", "\x00" + good, "\x06" + good[1:],
		"\x01\x04" + good[2:], "\x01\x00\x04" + good[3:], strings.Repeat("\x01", api.MaxData),
	} {
		for _, rogue := range []int{1, nobody} {
			a := api.Act{Kind: api.Forge, Text: text}
			same(t, fmt.Sprintf("forged %q", text), run(t, rogue, a), run(t, rogue))
		}
	}
}

// P10.12

func TestRogueOutOfRange(t *testing.T) {
	many := slices.Repeat([]api.Act{{}}, api.MaxActs+1)
	for _, rogue := range []int{-2, 4, 5, -4, 255, math.MinInt, math.MaxInt} {
		refuse(t, "no acts", rogue, nil, api.ErrRange)
		refuse(t, "an act", rogue, []api.Act{work(0)}, api.ErrRange)
		refuse(t, "an act that may not be", rogue, []api.Act{{}}, api.ErrRange)
		refuse(t, "too many", rogue, many, api.ErrRange)
	}
}

func TestTooManyActs(t *testing.T) {
	for _, a := range []api.Act{start(0), flow(), {}, {Kind: 11}, {Kind: api.Work, Node: 4}} {
		for _, rogue := range []int{nobody, 0, 3} {
			refuse(t, "too many", rogue, slices.Repeat([]api.Act{a}, api.MaxActs+1), api.ErrSize)
			refuse(t, "far too many", rogue, slices.Repeat([]api.Act{a}, 10*api.MaxActs), api.ErrSize)
		}
	}
	same(t, "just enough", run(t, nobody, times(api.MaxActs, start(0))), run(t, nobody))
	codes := run(t, nobody, times(api.MaxActs, submit(3, "a"))).Codes
	if len(codes) != api.MaxActs || codes[0] != api.OK || codes[1] != api.ErrTwice || codes[api.MaxActs-1] != api.ErrTwice {
		t.Errorf("%d codes", len(codes))
	}
}

func TestActsThatMayNotBe(t *testing.T) {
	long := strings.Repeat("x", api.MaxData+1)
	wrong := map[api.Errno][]api.Act{
		api.ErrKind:  {{}, {Kind: 11}, {Kind: -1}, {Kind: math.MaxInt}, {Kind: 0, Node: 9}},
		api.ErrRange: {work(4), sync(-1), crash(0, -1), take(api.MaxTape + 1), submit(4, long), {Kind: api.Forge, Node: math.MinInt}, {Kind: api.Flow, Node: 4}},
		api.ErrSize:  {submit(0, long), {Kind: api.Forge, Node: 3, Text: long}, {Kind: api.Flow, Text: long}},
		api.ErrForm:  {{Kind: api.Flow, Node: 1}, {Kind: api.Take, Node: 1}, {Kind: api.Work, Pick: 1}, {Kind: api.Start, Text: "x"}},
	}
	good := script(work(0), sync(0), flow())
	for want, l := range wrong {
		for _, a := range l {
			for _, rogue := range []int{nobody, 2} {
				refuse(t, "alone", rogue, []api.Act{a}, want)
				refuse(t, "first", rogue, script(a, good), want)
				refuse(t, "last", rogue, script(good, a), want)
				for other, more := range wrong {
					refuse(t, fmt.Sprint("ahead of ", other), rogue, script(good, a, more[0]), want)
				}
			}
		}
	}
}

// A long script: all slots of a table, and all certificates of a dag.
func TestMaxActs(t *testing.T) {
	calm := times(api.MaxActs/9, turn(0, 1, 2, 3))
	o := run(t, nobody, calm, times(api.MaxActs-len(calm), flow()))
	for n, v := range o.Nodes {
		if v.Round != 101 || len(v.Certs) != api.MaxCerts || len(v.Votes) != api.MaxSlots {
			t.Errorf("node %d: round %d, %d certificates, %d votes", n, v.Round, len(v.Certs), len(v.Votes))
		}
	}
	if len(o.Signs) != 4*api.MaxSlots || o.Away != 0 {
		t.Errorf("%d signs, %d on their way", len(o.Signs), o.Away)
	}
}

// What holds everywhere: acts stay, answers are new.

func TestActsStay(t *testing.T) {
	d := drawn(3)
	room := append(slices.Clone(d.acts), api.Act{Kind: 77, Text: "spare"})
	kept := slices.Clone(room)
	run(t, d.model.rogue, room[:len(d.acts)])
	if !slices.Equal(room, kept) {
		t.Error("the acts were changed")
	}
}

// A stretch of memory that a list has.
type stretch struct{ from, to uintptr }

// stretches of all lists within a value, their spare room too.
func stretches(v reflect.Value) []stretch {
	var l []stretch
	switch v.Kind() {
	case reflect.Struct:
		for i := range v.NumField() {
			l = append(l, stretches(v.Field(i))...)
		}
	case reflect.Slice:
		if size := uintptr(v.Cap()) * v.Type().Elem().Size(); size > 0 {
			l = append(l, stretch{v.Pointer(), v.Pointer() + size})
		}
		for i := range v.Len() {
			l = append(l, stretches(v.Index(i))...)
		}
	}
	return l
}

func TestAnswersShareNothing(t *testing.T) {
	d := drawn(5)
	for _, l := range [][]api.Act{d.acts, script(busy(), drained(), busy())} {
		first, second := run(t, nobody, l), run(t, nobody, l)
		all := append(stretches(reflect.ValueOf(first)), stretches(reflect.ValueOf(second))...)
		all = append(all, stretches(reflect.ValueOf(l))...)
		slices.SortFunc(all, func(a, b stretch) int {
			if a.from < b.from {
				return -1
			}
			return 1
		})
		if len(all) < 300 {
			t.Errorf("only %d lists", len(all))
		}
		for i := 1; i < len(all); i++ {
			if all[i].from < all[i-1].to {
				t.Fatalf("two lists share memory")
			}
		}
	}
}

// busy: batches, votes and certificates of three rounds, and transactions left.
func busy() []api.Act {
	var l []api.Act
	for i := range 9 {
		for n := range api.Nodes {
			l = append(l, submit(n, fmt.Sprint(n, i)), submit(n, fmt.Sprint(n, i, "b")))
		}
		l = append(l, turn(0, 1, 2, 3)...)
	}
	return append(l, submit(0, "left"), submit(3, "left"), submit(3, "too"))
}
