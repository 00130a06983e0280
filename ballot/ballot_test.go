package ballot

import (
	"bytes"
	"math"
	"math/rand"
	"reflect"
	"testing"

	"sheaves/api"
	"sheaves/wire"
)

// sample: a digest that no other number has (of 0 to 255).
func sample(n int) []byte { return bytes.Repeat([]byte{byte(n)}, 32) }

func samples(numbers ...int) [][]byte {
	var l [][]byte
	for _, n := range numbers {
		l = append(l, sample(n))
	}
	return l
}

func slot(author, round, digest int) api.Slot {
	return api.Slot{Author: author, Round: round, Digest: sample(digest)}
}

// goodTable has slots that share the author alone, the round alone, the digest
// alone with the first one.
func goodTable() []api.Slot {
	return []api.Slot{slot(2, 3, 4), slot(2, 4, 5), slot(1, 3, 6), slot(0, 1, 4), slot(3, api.MaxRound, 7)}
}

// tableOf so many slots, of round 1 on, each of another digest.
func tableOf(n int) []api.Slot {
	var l []api.Slot
	for i := range n {
		s := slot(i%api.Nodes, 1+i/api.Nodes, 0)
		s.Digest[0], s.Digest[31] = byte(i), byte(i>>8)
		l = append(l, s)
	}
	return l
}

// wrongSlots: what CheckSlot refuses.
func wrongSlots() []api.Slot {
	l := []api.Slot{
		{},
		{Round: 9},
		{Round: 9, Digest: []byte{}},
		{Round: 9, Digest: make([]byte, 31)},
		{Round: 9, Digest: make([]byte, 33)},
		{Author: 4},
	}
	for _, n := range noNodes {
		l = append(l, slot(n, 9, 9))
	}
	for _, n := range noRounds {
		l = append(l, slot(1, n, 9))
	}
	return l
}

var (
	noNodes  = []int{-1, api.Nodes, 5, 255, 256, 1 << 32, math.MinInt, math.MaxInt}
	noRounds = []int{0, -1, api.MaxRound + 1, math.MinInt, math.MaxInt}
)

// wrongTables: of each kind of tables that Check refuses some.
func wrongTables() [][]api.Slot {
	l := [][]api.Slot{
		tableOf(api.MaxSlots + 1),
		tableOf(2 * api.MaxSlots),
		{slot(0, 1, 1), slot(0, 1, 1)},
		{slot(0, 1, 1), slot(0, 1, 2)},
		append(goodTable(), slot(2, 3, 9)),
		append(goodTable(), slot(3, api.MaxRound, 9)),
		append([]api.Slot{slot(3, api.MaxRound, 9)}, goodTable()...),
		append(tableOf(api.MaxSlots-1), slot(0, 1, 9)),
	}
	for _, s := range wrongSlots() {
		l = append(l, []api.Slot{s}, append(goodTable(), s), append([]api.Slot{s}, goodTable()...))
	}
	return l
}

// goodHeads: a header without anything, and at the edges.
func goodHeads() []api.Header {
	return []api.Header{
		{Author: 0, Round: 1},
		{Author: 3, Round: 1, Batches: [][]byte{}, Parents: [][]byte{}},
		{Author: 0, Round: api.MaxRound, Parents: samples(1, 2, 3)},
		{Author: 3, Round: api.MaxRound - 1, Batches: samples(1, 2, 3), Parents: samples(4, 5, 6, 7)},
		{Author: 2, Round: 2, Batches: samples(9), Parents: samples(4, 5, 6)},
	}
}

// wrongHeads: what CheckHeader refuses, of author 0 and round 1 where they may.
func wrongHeads() []api.Header {
	l := []api.Header{
		{},
		{Round: 1, Batches: samples(1, 2, 3, 4)},
		{Round: 1, Parents: samples(1, 2, 3, 4, 5)},
		{Round: 1, Batches: [][]byte{{1}}},
		{Round: 1, Batches: samples(1, 1)},
		{Round: 1, Parents: [][]byte{nil}},
		{Round: 1, Parents: samples(1, 1)},
		{Round: 1, Parents: samples(1, 2, 3)},
		{Round: 2, Parents: samples(1, 2)},
		{Round: api.MaxRound},
	}
	for _, n := range noNodes {
		l = append(l, api.Header{Author: n, Round: 1})
	}
	for _, n := range noRounds {
		l = append(l, api.Header{Round: n, Parents: samples(1, 2, 3)})
	}
	return l
}

// slotFor is written once more than the program has it, by the chapter's words.
func slotFor(h api.Header) api.Slot {
	d, e := wire.HeaderDigest(h)
	if e != api.OK {
		panic("a header that may not be")
	}
	return api.Slot{Author: h.Author, Round: h.Round, Digest: d}
}

// isRefused: with an error all else is empty.
func isRefused(l []api.Slot, s api.Slot) bool {
	return len(l) == 0 && reflect.DeepEqual(s, api.Slot{})
}

// P4.1

func TestCheck(t *testing.T) {
	for i, l := range [][]api.Slot{
		nil,
		{},
		{slot(0, 1, 0)},
		{slot(3, api.MaxRound, 255)},
		{slot(0, 1, 1), slot(0, 2, 1)},
		{slot(0, 1, 1), slot(1, 1, 1)},
		{slot(1, 2, 1), slot(2, 1, 1)},
		goodTable(),
		tableOf(api.MaxSlots - 1),
		tableOf(api.MaxSlots),
	} {
		if e := Check(l); e != api.OK {
			t.Errorf("table %d: %d", i, e)
		}
	}
	for i, l := range wrongTables() {
		if e := Check(l); e != api.ErrState {
			t.Errorf("wrong table %d: %d", i, e)
		}
	}
}

// Wherever a slot stands, another one of its author and round may not be.
func TestCheckTwiceAnywhere(t *testing.T) {
	for i := range goodTable() {
		for j := range goodTable() {
			l := goodTable()
			l[j] = slot(l[i].Author, l[i].Round, 99)
			want := api.ErrState
			if i == j {
				want = api.OK
			}
			if e := Check(l); e != want {
				t.Errorf("slot %d at %d: %d", i, j, e)
			}
		}
	}
}

// Very many slots are refused without holding each against each.
func TestCheckVeryMany(t *testing.T) {
	if e := Check(make([]api.Slot, 1<<20)); e != api.ErrState {
		t.Errorf("%d", e)
	}
}

// A table that may not be is told ahead of all else.
func TestStateFirst(t *testing.T) {
	for i, l := range wrongTables() {
		for _, h := range append(wrongHeads(), goodHeads()...) {
			if got, s, e := Cast(l, h); !isRefused(got, s) || e != api.ErrState {
				t.Errorf("table %d, header %v: %v %v %d", i, h, got, s, e)
			}
		}
		for _, at := range [][2]int{{0, 1}, {2, 3}, {3, 3}, {4, 1}, {0, 0}, {-1, math.MaxInt}} {
			if d, e := Voted(l, at[0], at[1]); len(d) != 0 || e != api.ErrState {
				t.Errorf("table %d, voted %v: %v %d", i, at, d, e)
			}
		}
	}
}

// P4.2

func TestVoted(t *testing.T) {
	for i, l := range [][]api.Slot{goodTable(), tableOf(1), tableOf(api.MaxSlots)} {
		for j, s := range l {
			if d, e := Voted(l, s.Author, s.Round); e != api.OK || !bytes.Equal(d, s.Digest) {
				t.Errorf("table %d, slot %d: %v %d", i, j, d, e)
			}
		}
	}
}

func TestVotedNone(t *testing.T) {
	empty := [][2]int{{0, 1}, {3, api.MaxRound}, {0, 0}}
	for _, at := range empty {
		for _, l := range [][]api.Slot{nil, {}} {
			if d, e := Voted(l, at[0], at[1]); len(d) != 0 || e != api.ErrNone {
				t.Errorf("empty, %v: %v %d", at, d, e)
			}
		}
	}
	// Author and round are there, each in another slot; or neither may be.
	asked := [][2]int{{2, 1}, {0, 3}, {1, 4}, {3, 1}, {3, api.MaxRound - 1}, {0, api.MaxRound}, {2, 0}, {2, -1}, {2, api.MaxRound + 1}}
	for _, n := range noNodes {
		asked = append(asked, [2]int{n, 3})
	}
	for _, n := range noRounds {
		asked = append(asked, [2]int{2, n})
	}
	for _, at := range asked {
		if d, e := Voted(goodTable(), at[0], at[1]); len(d) != 0 || e != api.ErrNone {
			t.Errorf("%v: %v %d", at, d, e)
		}
	}
}

// P4.3

func TestCast(t *testing.T) {
	var l []api.Slot
	for i, h := range goodHeads() {
		want := append(append([]api.Slot{}, l...), slotFor(h))
		for range 2 { // the second time nothing is new
			got, s, e := Cast(l, h)
			if e != api.OK || !reflect.DeepEqual(got, want) || !reflect.DeepEqual(s, slotFor(h)) {
				t.Fatalf("header %d: %v %v %d", i, got, s, e)
			}
			l = got
		}
	}
	for i, h := range goodHeads() { // wherever its slot stands
		got, s, e := Cast(l, h)
		if e != api.OK || !reflect.DeepEqual(got, l) || !reflect.DeepEqual(s, slotFor(h)) {
			t.Errorf("header %d once more: %v %v %d", i, got, s, e)
		}
	}
}

func TestCastIntoOthers(t *testing.T) {
	for i, h := range goodHeads() {
		for _, l := range [][]api.Slot{nil, {}, goodTable()[:3], {slot(3, 3, 3)}} {
			got, s, e := Cast(l, h)
			if e != api.OK || !reflect.DeepEqual(got, append(append([]api.Slot{}, l...), slotFor(h))) || !reflect.DeepEqual(s, slotFor(h)) {
				t.Errorf("header %d into %v: %v %v %d", i, l, got, s, e)
			}
		}
	}
}

// A digest that is worked out once and for all: wire's tests hold it.
func TestCastOfKnownDigest(t *testing.T) {
	digest := []byte("\x56\x7d\x65\x0f\xab\x0a\x6e\x09\x96\x73\x25\xa3\x10\x61\x13\xfa\x3b\xc2\x84\x7b\xf0\x85\x61\x5a\x3a\xf8\x70\x9d\xc4\xc4\x75\xee")
	l, s, e := Cast(nil, api.Header{Author: 0, Round: 1})
	want := api.Slot{Author: 0, Round: 1, Digest: digest}
	if e != api.OK || !reflect.DeepEqual(s, want) || !reflect.DeepEqual(l, []api.Slot{want}) {
		t.Errorf("%v %v %d", l, s, e)
	}
}

func TestCastRefused(t *testing.T) {
	for i, h := range wrongHeads() {
		want := wire.CheckHeader(h)
		if want == api.OK {
			t.Fatalf("header %d may be", i)
		}
		// Both errors that come later would be told of the last table: it is full, and has other votes.
		for j, l := range [][]api.Slot{nil, {slot(0, 1, 9)}, tableOf(api.MaxSlots)} {
			if got, s, e := Cast(l, h); !isRefused(got, s) || e != want {
				t.Errorf("header %d, table %d: %v %v %d, want %d", i, j, got, s, e, want)
			}
		}
	}
}

func TestCastTwice(t *testing.T) {
	for i, h := range goodHeads() {
		other := h
		other.Batches = samples(100)
		l, _, e := Cast(goodTable()[:3], h)
		if e != api.OK {
			t.Fatalf("header %d: %d", i, e)
		}
		if got, s, e := Cast(l, other); !isRefused(got, s) || e != api.ErrTwice {
			t.Errorf("header %d, another one: %v %v %d", i, got, s, e)
		}
		if d, e := Voted(l, h.Author, h.Round); e != api.OK || !bytes.Equal(d, slotFor(h).Digest) {
			t.Errorf("header %d, what was voted for: %v %d", i, d, e)
		}
	}
}

// A vote whose digest differs in one byte, whichever, is another one.
func TestCastTwiceByOneByte(t *testing.T) {
	h := goodHeads()[0]
	for i := range 32 {
		s := slotFor(h)
		s.Digest[i]++
		if got, s, e := Cast([]api.Slot{s}, h); !isRefused(got, s) || e != api.ErrTwice {
			t.Errorf("byte %d: %v %v %d", i, got, s, e)
		}
	}
}

func TestCastFull(t *testing.T) {
	fresh := api.Header{Author: 1, Round: api.MaxRound, Parents: samples(1, 2, 3)}
	own := api.Header{Author: 2, Round: 1} // the third slot's author and round
	another := own
	another.Batches = samples(9)
	full := tableOf(api.MaxSlots)
	full[2] = slotFor(own)

	got, s, e := Cast(full[:api.MaxSlots-1], fresh)
	if e != api.OK || len(got) != api.MaxSlots || !reflect.DeepEqual(got[api.MaxSlots-1], slotFor(fresh)) || !reflect.DeepEqual(s, slotFor(fresh)) {
		t.Errorf("the last one: %d slots, %v %d", len(got), s, e)
	}
	if got, s, e := Cast(full, fresh); !isRefused(got, s) || e != api.ErrFull {
		t.Errorf("one more: %v %v %d", got, s, e)
	}
	got, s, e = Cast(full, own)
	if e != api.OK || !reflect.DeepEqual(got, full) || !reflect.DeepEqual(s, slotFor(own)) {
		t.Errorf("one that is there: %d slots, %v %d", len(got), s, e)
	}
	// Another vote is told ahead of there being no room.
	if got, s, e := Cast(full, another); !isRefused(got, s) || e != api.ErrTwice {
		t.Errorf("another one: %v %v %d", got, s, e)
	}
}

// What comes of it: for each author and round there is one vote, for ever. A
// drawn walk, held against what was first.
func TestDrawnVotes(t *testing.T) {
	r := rand.New(rand.NewSource(4))
	var l, want []api.Slot
	first := map[[2]int]int{} // the batch of the header that was voted for
	for i := range 500 {
		author, round, batch := r.Intn(api.Nodes), 1+r.Intn(8), r.Intn(3)
		h := api.Header{Author: author, Round: round, Batches: samples(batch)}
		if round > 1 {
			h.Parents = samples(1, 2, 3)
		}
		got, s, e := Cast(l, h)
		was, there := first[[2]int{author, round}]
		if there && was != batch {
			if !isRefused(got, s) || e != api.ErrTwice {
				t.Fatalf("step %d: %v %v %d", i, got, s, e)
			}
			continue
		}
		if !there {
			first[[2]int{author, round}] = batch
			want = append(want, slotFor(h))
		}
		if e != api.OK || !reflect.DeepEqual(got, want) || !reflect.DeepEqual(s, slotFor(h)) {
			t.Fatalf("step %d: %v %v %d", i, got, s, e)
		}
		l = got
	}
	if len(l) != api.Nodes*8 {
		t.Errorf("%d votes in all", len(l))
	}
}

// What holds everywhere: arguments stay, answers are new.

func roomySlot(s api.Slot) api.Slot {
	s.Digest = append(append([]byte{}, s.Digest...), 0xee, 0xee)[:len(s.Digest)]
	return s
}

// roomyTable: its spare room, and that of its digests, would show a write.
func roomyTable() []api.Slot {
	var l []api.Slot
	for _, s := range append(goodTable(), slotFor(goodHeads()[4])) {
		l = append(l, roomySlot(s))
	}
	return append(l, roomySlot(slot(3, 3, 3)), roomySlot(slot(3, 4, 3)))[:len(l)]
}

func roomyHead(h api.Header) api.Header {
	list := func(digests [][]byte) [][]byte {
		l := append([][]byte{}, digests...)
		return append(l, []byte("spare"))[:len(l)]
	}
	h.Batches, h.Parents = list(h.Batches), list(h.Parents)
	return h
}

// wholes: all that a table reaches, spare room too.
func wholes(l []api.Slot) []any {
	var all []any
	for _, s := range l[:len(l)+2] {
		all = append(all, s, s.Digest[:cap(s.Digest)])
	}
	return all
}

func wholesOfHead(h api.Header) []any {
	return []any{h, h.Batches[:len(h.Batches)+1], h.Parents[:len(h.Parents)+1]}
}

func TestArgumentsStay(t *testing.T) {
	l := roomyTable()
	if e := Check(l); e != api.OK {
		t.Fatalf("check: %d", e)
	}
	if _, e := Voted(l, 2, 3); e != api.OK {
		t.Fatalf("voted: %d", e)
	}
	fresh := api.Header{Author: 0, Round: 9, Batches: samples(1), Parents: samples(1, 2, 3)}
	for _, plain := range []api.Header{goodHeads()[4], fresh} {
		h := roomyHead(plain)
		if _, _, e := Cast(l, h); e != api.OK {
			t.Fatalf("cast: %d", e)
		}
		if !reflect.DeepEqual(wholesOfHead(h), wholesOfHead(roomyHead(plain))) {
			t.Error("the header was changed")
		}
	}
	if !reflect.DeepEqual(wholes(l), wholes(roomyTable())) {
		t.Error("the table was changed")
	}
}

func overwrite(b []byte) {
	b = b[:cap(b)]
	for i := range b {
		b[i] = 0xee
	}
}

func overwriteTable(l []api.Slot) {
	l = l[:cap(l)]
	for i := range l {
		overwrite(l[i].Digest)
		l[i] = api.Slot{Author: 99}
	}
}

func TestVotedIsNew(t *testing.T) {
	l := roomyTable()
	got, _ := Voted(l, 2, 3)
	other, _ := Voted(l, 2, 3)
	overwrite(other)
	if !reflect.DeepEqual(wholes(l), wholes(roomyTable())) {
		t.Error("an answer shares memory with what was handed in")
	}
	overwriteTable(l)
	if !bytes.Equal(got, sample(4)) {
		t.Error("an answer hangs on what was handed in, or on another answer")
	}
}

func TestCastIsNew(t *testing.T) {
	fresh := api.Header{Author: 0, Round: 9, Batches: samples(1), Parents: samples(1, 2, 3)}
	for _, h := range []api.Header{goodHeads()[4], fresh} { // there already; new
		want, _, _ := Cast(roomyTable(), h)
		l := roomyTable()
		got, gotSlot, _ := Cast(l, h)
		other, otherSlot, _ := Cast(l, h)
		overwriteTable(other)
		overwrite(otherSlot.Digest)
		if !reflect.DeepEqual(wholes(l), wholes(roomyTable())) {
			t.Error("an answer shares memory with what was handed in")
		}
		overwriteTable(l)
		if !reflect.DeepEqual(got, want) || !reflect.DeepEqual(gotSlot, slotFor(h)) {
			t.Error("an answer hangs on what was handed in, or on another answer")
		}
		overwrite(gotSlot.Digest)
		for i := range got {
			if !reflect.DeepEqual(got[i:], want[i:]) {
				t.Errorf("digest %d shares memory with another one", i)
			}
			overwrite(got[i].Digest)
		}
	}
}
