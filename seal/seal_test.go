package seal

import (
	"bytes"
	"math"
	"math/rand"
	"reflect"
	"testing"

	"sheaves/api"
	"sheaves/wire"
)

// sample: a digest that no other number has (of 0 to 255).
func sample(n int) []byte { return bytes.Repeat([]byte{byte(n)}, 32) }

func samples(numbers ...int) [][]byte {
	var l [][]byte
	for _, n := range numbers {
		l = append(l, sample(n))
	}
	return l
}

// sign of a node, of a slot of that author, round and sample.
func sign(node, author, round, digest int) api.Sign {
	return api.Sign{Node: node, Slot: api.Slot{Author: author, Round: round, Digest: sample(digest)}}
}

func signOf(node int, s api.Slot) api.Sign { return api.Sign{Node: node, Slot: s} }

// goodSigns differ, each from the first one, in the node alone, the author
// alone, the round alone, the digest alone.
func goodSigns() []api.Sign {
	return []api.Sign{sign(1, 2, 3, 4), sign(0, 2, 3, 4), sign(1, 3, 3, 4), sign(1, 2, 4, 4), sign(1, 2, 3, 5)}
}

// wrongSigns: what P3.1 says of each that may not be.
func wrongSigns() map[*api.Sign]api.Errno {
	withDigest := func(d []byte) *api.Sign {
		s := sign(1, 2, 3, 4)
		s.Slot.Digest = d
		return &s
	}
	l := map[*api.Sign]api.Errno{
		{}:                              api.ErrRange, // its round is none
		{Slot: api.Slot{Round: 1}}:      api.ErrForm,
		withDigest(nil):                 api.ErrForm,
		withDigest([]byte{}):            api.ErrForm,
		withDigest(make([]byte, 31)):    api.ErrForm,
		withDigest(make([]byte, 33)):    api.ErrForm,
		withDigest(make([]byte, 64)):    api.ErrForm,
		{Node: 4}:                       api.ErrRange,
		{Node: 4, Slot: goodHeadSlot()}: api.ErrRange,
		// No node, ahead of a digest that is not in form.
		{Node: -1, Slot: api.Slot{Round: 1}}: api.ErrRange,
	}
	for _, n := range noNodes {
		node, author := sign(n, 2, 3, 4), sign(1, n, 3, 4)
		l[&node], l[&author] = api.ErrRange, api.ErrRange
	}
	for _, n := range []int{0, -1, api.MaxRound + 1, math.MinInt, math.MaxInt} {
		round := sign(1, 2, n, 4)
		l[&round] = api.ErrRange
	}
	return l
}

var (
	noNodes = []int{-1, api.Nodes, 5, 255, 256, 1 << 32, math.MinInt, math.MaxInt}
	// noRogues: -1 is one, as it says that there is none.
	noRogues = []int{-2, api.Nodes, 5, 255, 1 << 32, math.MinInt, math.MaxInt}
	rogues   = []int{-1, 0, 1, 2, 3}
)

// wrongLists: of each kind of signs that Check refuses some.
func wrongLists() [][]api.Sign {
	first := goodSigns()[0]
	l := [][]api.Sign{
		{first, first},
		append(goodSigns(), first),
		append(goodSigns(), goodSigns()[4]),
		append(append([]api.Sign{}, first), goodSigns()...),
		append(goodSigns(), goodSigns()...),
		{first, goodSigns()[1], first, {Node: 4}},
	}
	for s := range wrongSigns() {
		l = append(l, []api.Sign{*s}, append(goodSigns(), *s), append([]api.Sign{*s}, goodSigns()...))
	}
	return l
}

func goodHead() api.Header {
	return api.Header{Author: 2, Round: 2, Batches: samples(9), Parents: samples(4, 5, 6)}
}

func goodHeadSlot() api.Slot { return slotFor(goodHead()) }

// slotFor is written once more than the program has it, by the chapter's words.
func slotFor(h api.Header) api.Slot {
	d, e := wire.HeaderDigest(h)
	if e != api.OK {
		panic("a header that may not be")
	}
	return api.Slot{Author: h.Author, Round: h.Round, Digest: d}
}

// signedBy: these nodes have signed a header, among other signs.
func signedBy(h api.Header, nodes ...int) []api.Sign {
	l := goodSigns()
	for _, n := range nodes {
		l = append(l, signOf(n, slotFor(h)))
	}
	return l
}

// wrongCerts: what CheckCert says of each that may not be.
func wrongCerts() []api.Cert {
	return []api.Cert{
		{},
		{Header: api.Header{Author: 4, Round: 1}, Voters: []int{0, 1, 2}},
		{Header: api.Header{Round: api.MaxRound + 1}, Voters: []int{0, 1, 2}},
		{Header: api.Header{Round: 1, Batches: samples(1, 2, 3, 4)}, Voters: []int{0, 1, 2}},
		{Header: api.Header{Round: 1, Batches: [][]byte{{1}}}, Voters: []int{0, 1, 2}},
		{Header: api.Header{Round: 1, Batches: samples(1, 1)}, Voters: []int{0, 1, 2}},
		{Header: api.Header{Round: 2, Parents: samples(1, 2)}, Voters: []int{0, 1, 2}},
		{Header: goodHead(), Voters: []int{0, 1, 2, 3, 3}},
		{Header: goodHead(), Voters: []int{0, 1, 4}},
		{Header: goodHead(), Voters: []int{-1, 0, 1}},
		{Header: goodHead(), Voters: []int{0, 2, 1}},
		{Header: goodHead(), Voters: []int{0, 0, 1}},
		{Header: goodHead(), Voters: []int{0, 1}},
		{Header: goodHead()},
	}
}

// voterLists: all that a certificate may have.
func voterLists() [][]int {
	return [][]int{{0, 1, 2}, {0, 1, 3}, {0, 2, 3}, {1, 2, 3}, {0, 1, 2, 3}}
}

// P3.1

func TestCheck(t *testing.T) {
	for i, l := range [][]api.Sign{
		nil,
		{},
		{sign(0, 0, 1, 0)},
		{sign(3, 3, api.MaxRound, 255)},
		goodSigns(),
		{sign(0, 3, 1, 0), sign(3, 0, 1, 0)},
		signedBy(goodHead(), 3, 0, 2, 1),
	} {
		if e := Check(l); e != api.OK {
			t.Errorf("signs %d: %d", i, e)
		}
	}
	for i, l := range wrongLists() {
		if e := Check(l); e != api.ErrState {
			t.Errorf("wrong signs %d: %d", i, e)
		}
	}
}

// Signs whose digests differ in one byte, whichever, are two.
func TestSignsOfEachByte(t *testing.T) {
	l := []api.Sign{sign(1, 2, 3, 4)}
	for i := range 32 {
		s := sign(1, 2, 3, 4)
		s.Slot.Digest[i]++
		if ok, e := Signed(l, nobody, s); ok || e != api.OK {
			t.Errorf("byte %d: %v %d", i, ok, e)
		}
		l = append(l, s)
	}
	if e := Check(l); e != api.OK {
		t.Errorf("all of them: %d", e)
	}
	for i := range l {
		if e := Check(append(l, l[i])); e != api.ErrState {
			t.Errorf("sign %d twice: %d", i, e)
		}
	}
}

// The number of signs has no limit.
func TestCheckMany(t *testing.T) {
	var l []api.Sign
	for round := range 5000 {
		for node := range api.Nodes {
			l = append(l, sign(node, round%3, 5000-round, round))
		}
	}
	if e := Check(l); e != api.OK {
		t.Errorf("%d signs: %d", len(l), e)
	}
	if e := Check(append(l, l[7777])); e != api.ErrState {
		t.Errorf("one of them twice: %d", e)
	}
}

// Signs that may not be are told ahead of all else.
func TestStateFirst(t *testing.T) {
	for i, l := range wrongLists() {
		for _, s := range []api.Sign{sign(1, 2, 3, 4), {Node: 4}, {Slot: api.Slot{Round: 1}}} {
			if got, e := Add(l, s); len(got) != 0 || e != api.ErrState {
				t.Errorf("signs %d, added %v: %v %d", i, s, got, e)
			}
			for _, rogue := range []int{-1, 1, 4, math.MinInt} {
				if ok, e := Signed(l, rogue, s); ok || e != api.ErrState {
					t.Errorf("signs %d, rogue %d, sign %v: %v %d", i, rogue, s, ok, e)
				}
			}
		}
		for _, c := range append(wrongCerts(), api.Cert{Header: goodHead(), Voters: []int{0, 1, 2}}) {
			for _, rogue := range []int{-1, 1, 4, math.MinInt} {
				if e := Proven(l, rogue, c); e != api.ErrState {
					t.Errorf("signs %d, rogue %d, certificate %v: %d", i, rogue, c, e)
				}
			}
		}
	}
}

// A rogue that is none is told next, ahead of what is wrong with a sign or a
// certificate (which would have other errors) and of what was not signed.
func TestRogueNext(t *testing.T) {
	for _, rogue := range noRogues {
		for _, l := range [][]api.Sign{nil, goodSigns(), signedBy(goodHead(), 0, 1, 2, 3)} {
			for _, s := range []api.Sign{sign(1, 2, 3, 4), sign(3, 3, 3, 3), {Slot: api.Slot{Round: 1}}} {
				if ok, e := Signed(l, rogue, s); ok || e != api.ErrRange {
					t.Errorf("rogue %d, sign %v: %v %d", rogue, s, ok, e)
				}
			}
			for _, c := range append(wrongCerts(), api.Cert{Header: goodHead(), Voters: []int{0, 1, 2}}) {
				if e := Proven(l, rogue, c); e != api.ErrRange {
					t.Errorf("rogue %d, certificate %v: %d", rogue, c, e)
				}
			}
		}
	}
}

// P3.2

func TestAdd(t *testing.T) {
	var l []api.Sign
	for i, s := range goodSigns() {
		for range 2 { // the second time it is there already
			got, e := Add(l, s)
			if e != api.OK || !reflect.DeepEqual(got, goodSigns()[:i+1]) {
				t.Fatalf("sign %d: %v %d", i, got, e)
			}
			l = got
		}
	}
	for i, s := range goodSigns() {
		if got, e := Add(l, s); e != api.OK || !reflect.DeepEqual(got, goodSigns()) {
			t.Errorf("sign %d once more: %v %d", i, got, e)
		}
	}
}

func TestAddEdges(t *testing.T) {
	for i, s := range []api.Sign{sign(0, 0, 1, 0), sign(3, 3, api.MaxRound, 255), sign(0, 3, 1, 1), sign(3, 0, 1, 1)} {
		for _, empty := range [][]api.Sign{nil, {}} {
			if got, e := Add(empty, s); e != api.OK || !reflect.DeepEqual(got, []api.Sign{s}) {
				t.Errorf("sign %d: %v %d", i, got, e)
			}
		}
		if got, e := Add(goodSigns(), s); e != api.OK || !reflect.DeepEqual(got, append(goodSigns(), s)) {
			t.Errorf("sign %d, behind others: %v %d", i, got, e)
		}
	}
}

func TestAddRefused(t *testing.T) {
	for s, want := range wrongSigns() {
		for _, l := range [][]api.Sign{nil, goodSigns()} {
			if got, e := Add(l, *s); len(got) != 0 || e != want {
				t.Errorf("%v: %v %d, want %d", *s, got, e, want)
			}
		}
	}
}

// P3.3

func TestSigned(t *testing.T) {
	for _, rogue := range rogues {
		for i, s := range goodSigns() {
			if ok, e := Signed(goodSigns(), rogue, s); !ok || e != api.OK {
				t.Errorf("rogue %d, sign %d: %v %d", rogue, i, ok, e)
			}
			rest := append(goodSigns()[:i], goodSigns()[i+1:]...)
			if ok, e := Signed(rest, rogue, s); ok != (s.Node == rogue) || e != api.OK {
				t.Errorf("rogue %d, without sign %d: %v %d", rogue, i, ok, e)
			}
		}
		for node := range api.Nodes {
			for _, l := range [][]api.Sign{nil, {}, {sign(0, 0, 1, 0), sign(1, 0, 1, 0), sign(2, 0, 1, 0), sign(3, 0, 1, 0)}} {
				s := sign(node, 3, api.MaxRound, 255)
				if ok, e := Signed(l, rogue, s); ok != (node == rogue) || e != api.OK {
					t.Errorf("rogue %d, node %d: %v %d", rogue, node, ok, e)
				}
			}
		}
	}
}

// The rogue's sign, too, must be one that may be.
func TestSignedRefused(t *testing.T) {
	for s, want := range wrongSigns() {
		for _, rogue := range rogues {
			if ok, e := Signed(goodSigns(), rogue, *s); ok || e != want {
				t.Errorf("rogue %d, %v: %v %d, want %d", rogue, *s, ok, e, want)
			}
		}
	}
}

// P3.4

// subsets of the nodes.
func subsets() [][]int {
	var l [][]int
	for bits := range 1 << api.Nodes {
		var nodes []int
		for n := range api.Nodes {
			if bits>>n&1 == 1 {
				nodes = append(nodes, n)
			}
		}
		l = append(l, nodes)
	}
	return l
}

func contains(l []int, n int) bool {
	for _, x := range l {
		if x == n {
			return true
		}
	}
	return false
}

// Who ever has signed, whoever is the rogue, votes, is the author.
func TestProvenAll(t *testing.T) {
	proven := 0
	for author := range api.Nodes {
		h := goodHead()
		h.Author = author
		for _, voters := range voterLists() {
			for _, signers := range subsets() {
				for _, rogue := range rogues {
					want := api.OK
					for _, n := range append([]int{author}, voters...) {
						if n != rogue && !contains(signers, n) {
							want = api.ErrSign
						}
					}
					if want == api.OK {
						proven++
					}
					got := Proven(signedBy(h, signers...), rogue, api.Cert{Header: h, Voters: voters})
					if got != want {
						t.Errorf("author %d, voters %v, signed by %v, rogue %d: %d, want %d", author, voters, signers, rogue, got, want)
					}
				}
			}
		}
	}
	if proven == 0 {
		t.Error("none was proven")
	}
}

func TestProvenByHand(t *testing.T) {
	h := goodHead() // of node 2
	for i, c := range []struct {
		signers []int
		rogue   int
		voters  []int
		want    api.Errno
	}{
		{[]int{0, 1, 2}, -1, []int{0, 1, 2}, api.OK},
		{[]int{2, 1, 0}, -1, []int{0, 1, 2}, api.OK},
		{[]int{0, 1, 2, 3}, -1, []int{0, 1, 2, 3}, api.OK},
		{[]int{0, 1, 2, 3}, -1, []int{0, 1, 3}, api.OK},
		// The author is not among the voters, and has not signed.
		{[]int{0, 1, 3}, -1, []int{0, 1, 3}, api.ErrSign},
		{[]int{0, 1, 3}, 0, []int{0, 1, 3}, api.ErrSign},
		{[]int{0, 1, 3}, 2, []int{0, 1, 3}, api.OK},
		// One voter too few that has signed.
		{[]int{0, 2}, -1, []int{0, 1, 2}, api.ErrSign},
		{[]int{1, 2}, -1, []int{0, 1, 2}, api.ErrSign},
		{[]int{0, 1}, -1, []int{0, 1, 2}, api.ErrSign},
		{[]int{0, 1, 2}, -1, []int{0, 1, 2, 3}, api.ErrSign},
		{[]int{0, 1, 2}, 3, []int{0, 1, 2, 3}, api.OK},
		{[]int{1, 2, 3}, 0, []int{0, 1, 2, 3}, api.OK},
		{[]int{0, 2}, 1, []int{0, 1, 2}, api.OK},
		{[]int{2}, 1, []int{0, 1, 2}, api.ErrSign},
		{nil, -1, []int{0, 1, 2}, api.ErrSign},
		{nil, 2, []int{0, 1, 2}, api.ErrSign},
	} {
		cert := api.Cert{Header: h, Voters: c.voters}
		if got := Proven(signedBy(h, c.signers...), c.rogue, cert); got != c.want {
			t.Errorf("case %d: %d, want %d", i, got, c.want)
		}
	}
}

// Signs of a slot that differs in the author alone, the round alone or the
// digest alone prove nothing.
func TestProvenByOtherSlots(t *testing.T) {
	h := goodHead()
	good := slotFor(h)
	author, round, digest := good, good, good
	author.Author, round.Round, digest.Digest = 3, 3, sample(7)
	another := goodHead()
	another.Batches = nil
	for i, s := range []api.Slot{author, round, digest, slotFor(another)} {
		for short := range 3 {
			l := goodSigns()
			for n := range 3 {
				l = append(l, signOf(n, s))
				if n != short {
					l = append(l, signOf(n, good))
				}
			}
			c := api.Cert{Header: h, Voters: []int{0, 1, 2}}
			if e := Proven(l, nobody, c); e != api.ErrSign {
				t.Errorf("slot %d, without node %d: %d", i, short, e)
			}
			if e := Proven(append(l, signOf(short, good)), nobody, c); e != api.OK {
				t.Errorf("slot %d, with node %d: %d", i, short, e)
			}
		}
	}
}

// A slot that is worked out once and for all, of which the signs are told apart.
func TestProvenOfKnownDigest(t *testing.T) {
	// wire's tests hold this digest: author 0, round 1, nothing more.
	digest := []byte("\x56\x7d\x65\x0f\xab\x0a\x6e\x09\x96\x73\x25\xa3\x10\x61\x13\xfa\x3b\xc2\x84\x7b\xf0\x85\x61\x5a\x3a\xf8\x70\x9d\xc4\xc4\x75\xee")
	slot := api.Slot{Author: 0, Round: 1, Digest: digest}
	l := []api.Sign{signOf(0, slot), signOf(1, slot), signOf(2, slot)}
	c := api.Cert{Header: api.Header{Author: 0, Round: 1}, Voters: []int{0, 1, 2}}
	if e := Proven(l, nobody, c); e != api.OK {
		t.Errorf("signed by all: %d", e)
	}
	if e := Proven(l[:2], nobody, c); e != api.ErrSign {
		t.Errorf("signed by two: %d", e)
	}
}

func TestProvenEdges(t *testing.T) {
	for i, h := range []api.Header{
		{Author: 0, Round: 1},
		{Author: 3, Round: 1, Batches: [][]byte{}, Parents: [][]byte{}},
		{Author: 3, Round: api.MaxRound, Batches: samples(1, 2, 3), Parents: samples(4, 5, 6, 7)},
	} {
		c := api.Cert{Header: h, Voters: []int{0, 1, 2, 3}}
		if e := Proven(signedBy(h, 0, 1, 2, 3), nobody, c); e != api.OK {
			t.Errorf("header %d: %d", i, e)
		}
		if e := Proven(nil, nobody, c); e != api.ErrSign {
			t.Errorf("header %d, without signs: %d", i, e)
		}
	}
}

// What is wrong with a certificate is told ahead of who has not signed.
func TestProvenRefused(t *testing.T) {
	for i, c := range wrongCerts() {
		want := wire.CheckCert(c)
		if want == api.OK {
			t.Fatalf("certificate %d may be", i)
		}
		for _, l := range [][]api.Sign{nil, goodSigns(), signedBy(goodHead(), 0, 1, 2, 3)} {
			for _, rogue := range rogues {
				if e := Proven(l, rogue, c); e != want {
					t.Errorf("certificate %d, rogue %d: %d, want %d", i, rogue, e, want)
				}
			}
		}
	}
}

// What comes of it: two voters at least that are not bad have signed.
func TestProvenHasTwo(t *testing.T) {
	h := goodHead()
	for _, signers := range subsets() {
		for _, rogue := range rogues {
			for _, voters := range voterLists() {
				if Proven(signedBy(h, signers...), rogue, api.Cert{Header: h, Voters: voters}) != api.OK {
					continue
				}
				honest := 0
				for _, n := range voters {
					if n != rogue && contains(signers, n) {
						honest++
					}
				}
				if honest < 2 {
					t.Errorf("rogue %d, signed by %v: voters %v", rogue, signers, voters)
				}
			}
		}
	}
}

// drawnSign: one of few, so that it is often there already.
func drawnSign(r *rand.Rand) api.Sign {
	return sign(r.Intn(4), r.Intn(2), 1+r.Intn(2), r.Intn(3))
}

// A drawn walk, held against a list that is gone through sign by sign.
func TestDrawnSigns(t *testing.T) {
	r := rand.New(rand.NewSource(3))
	var l []api.Sign
	for i := range 400 {
		s := drawnSign(r)
		there := false
		for _, old := range l {
			there = there || reflect.DeepEqual(old, s)
		}
		rogue := r.Intn(5) - 1
		if ok, e := Signed(l, rogue, s); ok != (there || s.Node == rogue) || e != api.OK {
			t.Fatalf("step %d: signed: %v %d", i, ok, e)
		}
		want := append([]api.Sign{}, l...)
		if !there {
			want = append(want, s)
		}
		got, e := Add(l, s)
		if e != api.OK || !reflect.DeepEqual(got, want) {
			t.Fatalf("step %d: added: %v %d", i, got, e)
		}
		l = got
		if e := Check(append(append([]api.Sign{}, l...), s)); e != api.ErrState {
			t.Fatalf("step %d: twice: %d", i, e)
		}
	}
	if len(l) != 4*2*2*3 {
		t.Errorf("%d signs in all", len(l))
	}
}

// What holds everywhere: arguments stay, answers are new.

// roomySign: its digest has spare room that would show a write.
func roomySign(s api.Sign) api.Sign {
	s.Slot.Digest = append(append([]byte{}, s.Slot.Digest...), 0xee, 0xee)[:len(s.Slot.Digest)]
	return s
}

func roomySigns() []api.Sign {
	var l []api.Sign
	for _, s := range signedBy(goodHead(), 3, 1, 2) {
		l = append(l, roomySign(s))
	}
	return append(l, roomySign(sign(3, 3, 3, 3)), roomySign(sign(2, 3, 3, 3)))[:len(l)]
}

func roomyCert() api.Cert {
	list := func(numbers ...int) [][]byte {
		l := samples(numbers...)
		return append(l, []byte("spare"))[:len(l)]
	}
	h := api.Header{Author: 2, Round: 2, Batches: list(9), Parents: list(4, 5, 6)}
	return api.Cert{Header: h, Voters: []int{1, 2, 3, 77}[:3]}
}

// wholes: all that signs reach, spare room too.
func wholes(l []api.Sign) []any {
	var all []any
	for _, s := range l[:len(roomySigns())+2] {
		all = append(all, s, s.Slot.Digest[:cap(s.Slot.Digest)])
	}
	return all
}

func wholesOfCert(c api.Cert) []any {
	h := c.Header
	return []any{h.Batches[:2], h.Parents[:4], c.Voters[:4], c}
}

func TestArgumentsStay(t *testing.T) {
	l, c := roomySigns(), roomyCert()
	fresh := roomySign(sign(0, 0, 9, 9))
	if e := Check(l); e != api.OK {
		t.Fatalf("check: %d", e)
	}
	for _, s := range []api.Sign{l[2], fresh} {
		if _, e := Add(l, s); e != api.OK {
			t.Fatalf("added: %d", e)
		}
		if _, e := Signed(l, 3, s); e != api.OK {
			t.Fatalf("signed: %d", e)
		}
	}
	if e := Proven(l, nobody, c); e != api.OK {
		t.Fatalf("proven: %d", e)
	}
	if !reflect.DeepEqual(wholes(l), wholes(roomySigns())) {
		t.Error("the signs were changed")
	}
	if !reflect.DeepEqual(wholesOfCert(c), wholesOfCert(roomyCert())) {
		t.Error("the certificate was changed")
	}
	if again := roomySign(sign(0, 0, 9, 9)); !bytes.Equal(fresh.Slot.Digest[:34], again.Slot.Digest[:34]) {
		t.Error("the sign was changed")
	}
}

func overwrite(b []byte) {
	b = b[:cap(b)]
	for i := range b {
		b[i] = 0xee
	}
}

func overwriteSigns(l []api.Sign) {
	l = l[:cap(l)]
	for i := range l {
		overwrite(l[i].Slot.Digest)
		l[i] = api.Sign{Node: 99}
	}
}

func TestAnswersAreNew(t *testing.T) {
	for _, s := range []api.Sign{sign(1, 2, 3, 4), sign(3, 3, 3, 3)} { // there already; new
		want, _ := Add(goodSigns(), s)
		l, given := goodSigns(), roomySign(s)
		got, _ := Add(l, given)
		other, _ := Add(l, given)
		overwriteSigns(other)
		if !reflect.DeepEqual(l, goodSigns()) || !reflect.DeepEqual(given, s) {
			t.Error("an answer shares memory with what was handed in")
		}
		overwriteSigns(l)
		overwrite(given.Slot.Digest)
		if !reflect.DeepEqual(got, want) {
			t.Error("an answer hangs on what was handed in, or on another answer")
		}
		for i := range got {
			overwrite(got[i].Slot.Digest)
			if !reflect.DeepEqual(got[i+1:], want[i+1:]) {
				t.Errorf("digest %d shares memory with another one", i)
			}
		}
	}
}
