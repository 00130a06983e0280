package dag

import (
	"bytes"
	"math"
	"math/rand"
	"reflect"
	"testing"

	"sheaves/api"
	"sheaves/wire"
)

// sample: a digest that no other number has (of 0 to 255), and no certificate.
func sample(n int) []byte { return bytes.Repeat([]byte{byte(n)}, 32) }

func samples(numbers ...int) [][]byte {
	var l [][]byte
	for _, n := range numbers {
		l = append(l, sample(n))
	}
	return l
}

func cert(author, round int, parents ...[]byte) api.Cert {
	return api.Cert{Header: api.Header{Author: author, Round: round, Parents: parents}, Voters: []int{0, 1, 2}}
}

func digest(c api.Cert) []byte {
	k, e := wire.HeaderDigest(c.Header)
	if e != api.OK {
		panic("a header that may not be")
	}
	return k
}

func digests(l ...api.Cert) [][]byte {
	var all [][]byte
	for _, c := range l {
		all = append(all, digest(c))
	}
	return all
}

// parentsIn a dag, of a round: by their places.
func parentsIn(d api.Dag, round int) [][]byte {
	var l [][]byte
	for _, c := range d.Certs {
		if c.Header.Round == round-1 {
			l = append(l, digest(c))
		}
	}
	return l
}

// dagOf as many certificates, round by round, as there are numbers for them:
// each number tells an author, and a round ends where one is below 0.
func dagOf(authors ...int) api.Dag {
	var d api.Dag
	round := 1
	for _, a := range authors {
		if a < 0 {
			round++
			continue
		}
		d.Certs = append(d.Certs, cert(a, round, parentsIn(d, round)...))
	}
	return d
}

// bigDag has so many certificates, each round's of all nodes, from 0 on.
func bigDag(n int) api.Dag {
	var d api.Dag
	var last, now [][]byte
	for i := range n {
		if i%api.Nodes == 0 {
			last, now = now, nil
		}
		c := cert(i%api.Nodes, 1+i/api.Nodes, last...)
		d.Certs = append(d.Certs, c)
		now = append(now, digest(c))
	}
	return d
}

// goodDag: rounds 1 and 2 have enough certificates, round 3 not; not by their authors.
func goodDag() api.Dag { return dagOf(3, 0, 2, 1, -1, 2, 0, 3, -1, 3, 1) }

// with more certificates behind all.
func with(d api.Dag, l ...api.Cert) api.Dag {
	return api.Dag{Certs: append(append([]api.Cert{}, d.Certs...), l...)}
}

var (
	noNodes  = []int{-1, api.Nodes, 5, 255, 256, 1 << 32, math.MinInt, math.MaxInt}
	noRounds = []int{0, -1, api.MaxRound + 1, math.MinInt, math.MaxInt}
)

// wrongHeads: what CheckHeader refuses.
func wrongHeads() []api.Header {
	l := []api.Header{
		{},
		{Round: 1, Batches: samples(1, 2, 3, 4)},
		{Round: 1, Parents: samples(1, 2, 3, 4, 5)},
		{Round: 1, Batches: [][]byte{{1}}},
		{Round: 1, Batches: samples(1, 1)},
		{Round: 1, Parents: [][]byte{nil}},
		{Round: 1, Parents: samples(1, 1)},
		{Round: 1, Parents: samples(1, 2, 3)},
		{Round: 2},
		{Round: 2, Parents: samples(1, 2)},
		{Round: 2, Parents: digests(goodDag().Certs[:2]...)},
		{Round: 3, Parents: digests(goodDag().Certs[:2]...)},
		{Round: api.MaxRound},
	}
	for _, n := range noNodes {
		l = append(l, api.Header{Author: n, Round: 1})
	}
	for _, n := range noRounds {
		l = append(l, api.Header{Round: n, Parents: samples(1, 2, 3)})
	}
	return l
}

// wrongCerts: what CheckCert refuses.
func wrongCerts() []api.Cert {
	var l []api.Cert
	for _, h := range wrongHeads() {
		l = append(l, api.Cert{Header: h, Voters: []int{0, 1, 2}})
	}
	for _, v := range [][]int{nil, {0, 1}, {0, 1, 2, 3, 3}, {0, 1, 4}, {-1, 0, 1}, {0, 2, 1}, {1, 1, 2}} {
		l = append(l, api.Cert{Header: api.Header{Round: 1}, Voters: v})
	}
	return l
}

// wrongDags: of each kind of dags that Check refuses some.
func wrongDags() []api.Dag {
	good := goodDag()
	first, second := parentsIn(good, 2), parentsIn(good, 3)
	otherVoters := good.Certs[1]
	otherVoters.Voters = []int{1, 2, 3}
	otherBatches := good.Certs[1]
	otherBatches.Header.Batches = samples(7)
	l := []api.Dag{
		bigDag(api.MaxCerts + 1),
		bigDag(api.MaxCerts + api.Nodes),
		with(good, good.Certs[0]),
		with(good, good.Certs[8]),
		with(good, otherVoters),
		with(good, otherBatches),
		with(bigDag(3), cert(2, 1)),
		// A parent that nobody has: one of them, the last one, all.
		with(good, cert(0, 3, sample(1), second[0], second[1])),
		with(good, cert(0, 3, second[0], second[1], second[2], sample(1))),
		with(good, cert(0, 3, samples(1, 2, 3)...)),
		{Certs: []api.Cert{cert(0, 2, samples(1, 2, 3)...)}},
		// A parent that is not of the round ahead: of the one ahead of that, of its own, of a later one.
		with(good, cert(0, 3, first...)),
		with(good, cert(0, 3, second[0], second[1], first[0])),
		with(good, cert(1, 2, first[0], first[1], second[0])),
		with(good, cert(1, 2, first[0], first[1], digest(good.Certs[7]))),
		with(good, cert(0, 4, second...)),
		with(good, cert(0, api.MaxRound, second...)),
		// Parents that stand behind it.
		{Certs: append(append([]api.Cert{}, good.Certs[4:]...), good.Certs[:4]...)},
		{Certs: append([]api.Cert{good.Certs[8]}, good.Certs[:8]...)},
		{Certs: append(append([]api.Cert{}, good.Certs[1:7]...), good.Certs[0])},
		{Certs: append([]api.Cert{}, good.Certs[1:]...)},
	}
	for _, c := range wrongCerts() {
		l = append(l, api.Dag{Certs: []api.Cert{c}}, with(good, c), api.Dag{Certs: append([]api.Cert{c}, good.Certs...)})
	}
	return l
}

// P5.1

func TestCheck(t *testing.T) {
	for i, d := range []api.Dag{
		{},
		{Certs: []api.Cert{}},
		dagOf(0),
		dagOf(3),
		dagOf(3, 2, 1, 0),
		dagOf(0, 1, 2, -1, 0),
		dagOf(3, 2, 1, -1, 0, 3, 2, 1),
		dagOf(0, 3, -1, -1), // a round that nobody has certified is nothing
		goodDag(),
		bigDag(api.MaxCerts - 1),
		bigDag(api.MaxCerts),
	} {
		if e := Check(d); e != api.OK {
			t.Errorf("dag %d: %d", i, e)
		}
	}
	for i, d := range wrongDags() {
		if e := Check(d); e != api.ErrState {
			t.Errorf("wrong dag %d: %d", i, e)
		}
	}
}

// What a certificate need not be: by its author, with all that there are as its
// parents, or ahead of those of a later round.
func TestCheckFree(t *testing.T) {
	good := goodDag()
	first, second := parentsIn(good, 2), parentsIn(good, 3)
	voters := cert(0, 3, second...)
	voters.Voters = []int{0, 1, 2, 3}
	batches := cert(0, 3, second...)
	batches.Header.Batches = samples(1, 2, 3)
	for i, c := range []api.Cert{
		cert(1, 2, first...),
		cert(1, 2, first[0], first[1], first[2]),
		cert(1, 2, first[3], first[1], first[0]),
		cert(0, 3, second[2], second[0], second[1]),
		voters,
		batches,
	} {
		if e := Check(with(good, c)); e != api.OK {
			t.Errorf("case %d: %d", i, e)
		}
	}
}

// Wherever a certificate stands, another one of its author and round may not be.
func TestCheckTwiceAnywhere(t *testing.T) {
	for i := range 4 {
		for j := range 4 {
			d := dagOf(0, 1, 2, 3)
			d.Certs[j].Header.Author = i
			want := api.ErrState
			if i == j {
				want = api.OK
			}
			if e := Check(d); e != want {
				t.Errorf("author %d at %d: %d", i, j, e)
			}
		}
	}
}

// Very many certificates are refused without holding each against each.
func TestCheckVeryMany(t *testing.T) {
	if e := Check(api.Dag{Certs: make([]api.Cert, 1<<20)}); e != api.ErrState {
		t.Errorf("%d", e)
	}
}

// A dag that may not be is told ahead of all else.
func TestStateFirst(t *testing.T) {
	good := goodDag()
	certs := append(wrongCerts(), good.Certs[0], cert(0, 3, parentsIn(good, 3)...), cert(1, 9, samples(1, 2, 3)...))
	for i, d := range wrongDags() {
		for _, c := range certs {
			if got, e := Insert(d, c); len(got.Certs) != 0 || e != api.ErrState {
				t.Errorf("dag %d, insert %v: %v %d", i, c, got, e)
			}
			if l, e := Missing(d, c.Header); len(l) != 0 || e != api.ErrState {
				t.Errorf("dag %d, missing %v: %v %d", i, c, l, e)
			}
		}
		for _, k := range append(digests(good.Certs...), nil, sample(1)) {
			if c, e := Find(d, k); !reflect.DeepEqual(c, api.Cert{}) || e != api.ErrState {
				t.Errorf("dag %d, find: %v %d", i, c, e)
			}
		}
		if r, e := Round(d); r != 0 || e != api.ErrState {
			t.Errorf("dag %d, round: %d %d", i, r, e)
		}
		for _, r := range append(noRounds, 1, 2, api.MaxRound) {
			if l, e := Digests(d, r); len(l) != 0 || e != api.ErrState {
				t.Errorf("dag %d, digests of %d: %v %d", i, r, l, e)
			}
		}
	}
}

// same: lists without elements are the same, nil or not.
func same(a, b api.Cert) bool {
	return sameLists(a.Header.Batches, b.Header.Batches) && sameLists(a.Header.Parents, b.Header.Parents) &&
		a.Header.Author == b.Header.Author && a.Header.Round == b.Header.Round && reflect.DeepEqual(a.Voters, b.Voters)
}

func sameLists(a, b [][]byte) bool {
	return len(a) == len(b) && (len(a) == 0 || reflect.DeepEqual(a, b))
}

func sameDags(a, b api.Dag) bool {
	if len(a.Certs) != len(b.Certs) {
		return false
	}
	for i := range a.Certs {
		if !same(a.Certs[i], b.Certs[i]) {
			return false
		}
	}
	return true
}

// P5.2

func TestFind(t *testing.T) {
	full := cert(1, 3, parentsIn(goodDag(), 3)...)
	full.Header.Batches, full.Voters = samples(4, 5, 6), []int{0, 1, 2, 3}
	for i, d := range []api.Dag{dagOf(0), goodDag(), with(dagOf(3, 0, 2, 1, -1, 2, 0, 3), full), bigDag(api.MaxCerts)} {
		for j, c := range d.Certs {
			if j > 20 && j < len(d.Certs)-3 {
				continue
			}
			if got, e := Find(d, digest(c)); e != api.OK || !same(got, c) {
				t.Errorf("dag %d, certificate %d: %v %d", i, j, got, e)
			}
		}
	}
}

func TestFindNone(t *testing.T) {
	near := digest(goodDag().Certs[3])
	near[31]++
	asked := [][]byte{
		nil, {}, {0}, sample(0), near,
		digest(goodDag().Certs[3])[:31],
		append(digest(goodDag().Certs[3]), 0),
		digest(cert(1, 2, parentsIn(goodDag(), 2)...)), // one that nobody has put in
	}
	for _, d := range []api.Dag{{}, dagOf(0), goodDag(), bigDag(api.MaxCerts)} {
		for i, k := range asked {
			if got, e := Find(d, k); !reflect.DeepEqual(got, api.Cert{}) || e != api.ErrNone {
				t.Errorf("%d certificates, digest %d: %v %d", len(d.Certs), i, got, e)
			}
		}
	}
}

// P5.3

func TestMissing(t *testing.T) {
	good := goodDag()
	first, second := parentsIn(good, 2), parentsIn(good, 3)
	for i, c := range []struct {
		dag  api.Dag
		head api.Header
		want [][]byte
	}{
		{api.Dag{}, api.Header{Round: 1}, nil},
		{good, api.Header{Round: 1}, nil},
		{good, api.Header{Author: 3, Round: 1, Batches: samples(1, 2)}, nil},
		{api.Dag{}, api.Header{Round: 2, Parents: first}, first},
		{api.Dag{}, api.Header{Author: 3, Round: api.MaxRound, Parents: samples(4, 3, 1, 2)}, samples(4, 3, 1, 2)},
		{good, api.Header{Round: 2, Parents: first}, nil},
		{good, api.Header{Round: 3, Parents: second}, nil},
		{good, good.Certs[4].Header, nil},
		{good, api.Header{Round: 2, Parents: [][]byte{first[2], sample(9), first[0], sample(1)}}, samples(9, 1)},
		{good, api.Header{Round: 2, Parents: [][]byte{sample(1), first[0], sample(9), first[1]}}, samples(1, 9)},
		{good, api.Header{Round: 3, Parents: [][]byte{second[2], second[1], sample(5)}}, samples(5)},
		{good, api.Header{Round: 9, Parents: samples(3, 2, 1)}, samples(3, 2, 1)},
		// The batches are no parents.
		{good, api.Header{Round: 2, Batches: samples(9), Parents: first}, nil},
		{good, api.Header{Round: 2, Batches: second, Parents: first}, nil},
	} {
		if l, e := Missing(c.dag, c.head); e != api.OK || !sameLists(l, c.want) {
			t.Errorf("case %d: %v %d, want %v", i, l, e, c.want)
		}
	}
}

func TestMissingRefused(t *testing.T) {
	for i, h := range wrongHeads() {
		want := wire.CheckHeader(h)
		if want == api.OK {
			t.Fatalf("header %d may be", i)
		}
		for _, d := range []api.Dag{{}, goodDag(), bigDag(api.MaxCerts)} {
			if l, e := Missing(d, h); len(l) != 0 || e != want {
				t.Errorf("header %d, %d certificates: %v %d, want %d", i, len(d.Certs), l, e, want)
			}
		}
	}
}

// wrongParents: lists of parents, of a round, of which one is of another round.
func wrongParents(d api.Dag) []api.Header {
	first, second, third := parentsIn(d, 2), parentsIn(d, 3), parentsIn(d, 4)
	return []api.Header{
		{Round: 3, Parents: first},
		{Round: 4, Parents: first},
		{Round: 4, Parents: second},
		{Round: api.MaxRound, Parents: second},
		{Author: 1, Round: 2, Parents: second},
		{Author: 1, Round: 2, Parents: [][]byte{third[0], first[0], first[1]}},
		{Round: 3, Parents: [][]byte{second[0], second[1], first[3]}},
		{Round: 3, Parents: [][]byte{second[0], second[1], second[2], third[1]}},
		{Round: 3, Parents: [][]byte{first[0], second[1], second[2]}},
		// It is told ahead of what is missing, wherever both stand.
		{Round: 3, Parents: [][]byte{first[0], sample(1), sample(2)}},
		{Round: 3, Parents: [][]byte{sample(1), sample(2), sample(3), third[0]}},
		{Round: 9, Parents: [][]byte{sample(1), first[0], sample(2)}},
	}
}

func TestMissingOrder(t *testing.T) {
	for i, h := range wrongParents(goodDag()) {
		if l, e := Missing(goodDag(), h); len(l) != 0 || e != api.ErrOrder {
			t.Errorf("header %d: %v %d", i, l, e)
		}
	}
}

// Missing asks nothing else: neither whether the header's author has a
// certificate of that round, nor whether there is room.
func TestMissingOfWhatIsThere(t *testing.T) {
	d := bigDag(api.MaxCerts)
	for _, h := range []api.Header{d.Certs[4].Header, d.Certs[399].Header, {Round: 101, Parents: parentsIn(d, 101)}, {Round: 1, Batches: samples(1)}} {
		if l, e := Missing(d, h); len(l) != 0 || e != api.OK {
			t.Errorf("round %d: %v %d", h.Round, l, e)
		}
	}
}

// P5.4

// insert what may be.
func insert(t *testing.T, d api.Dag, c api.Cert) api.Dag {
	t.Helper()
	got, e := Insert(d, c)
	if e != api.OK || !sameDags(got, with(d, c)) {
		t.Fatalf("insert of %v: %v %d", c, got, e)
	}
	return got
}

func TestInsert(t *testing.T) {
	for i, want := range []api.Dag{dagOf(0), dagOf(3), goodDag(), dagOf(3, 2, 1, -1, 0, 1, 2, 3, -1, 0), bigDag(41)} {
		var d api.Dag
		for _, c := range want.Certs {
			d = insert(t, d, c)
		}
		if !sameDags(d, want) {
			t.Errorf("dag %d: %v", i, d)
		}
	}
}

// Certificates of a round that is over, with fewer parents, with other voters,
// with batches.
func TestInsertFree(t *testing.T) {
	good := goodDag()
	first, second := parentsIn(good, 2), parentsIn(good, 3)
	insert(t, good, cert(1, 2, first[1], first[3], first[2]))
	insert(t, good, cert(0, 3, second[2], second[0], second[1]))
	insert(t, dagOf(0, 1, 2, -1, 0, 1, 2, -1, 1), cert(3, 1))
	c := cert(2, 3, second...)
	c.Voters, c.Header.Batches = []int{0, 1, 2, 3}, samples(3, 1, 2)
	insert(t, good, c)
	empty := cert(0, 1)
	empty.Header.Batches, empty.Header.Parents = [][]byte{}, [][]byte{}
	insert(t, api.Dag{Certs: []api.Cert{}}, empty)
}

func notInserted(t *testing.T, what string, d api.Dag, c api.Cert, want api.Errno) {
	t.Helper()
	if got, e := Insert(d, c); len(got.Certs) != 0 || e != want {
		t.Errorf("%s: %v %d, want %d", what, got, e, want)
	}
}

func TestInsertRefused(t *testing.T) {
	for i, c := range wrongCerts() {
		want := wire.CheckCert(c)
		if want == api.OK {
			t.Fatalf("certificate %d may be", i)
		}
		// All that comes later would be told of the last one: it is full, and has that author and round.
		for _, d := range []api.Dag{{}, goodDag(), bigDag(api.MaxCerts)} {
			notInserted(t, "what may not be", d, c, want)
		}
	}
}

func TestInsertTwice(t *testing.T) {
	good := goodDag()
	for _, c := range good.Certs {
		notInserted(t, "the same one", good, c, api.ErrTwice)
		voters, batches := c, c
		voters.Voters, batches.Header.Batches = []int{1, 2, 3}, samples(8)
		notInserted(t, "other voters", good, voters, api.ErrTwice)
		notInserted(t, "other batches", good, batches, api.ErrTwice)
	}
	first := parentsIn(good, 2)
	// It is told ahead of wrong parents, of missing ones, and of no room.
	notInserted(t, "a wrong round", good, cert(3, 3, first...), api.ErrTwice)
	notInserted(t, "missing parents", good, cert(3, 3, samples(1, 2, 3)...), api.ErrTwice)
	notInserted(t, "no room", bigDag(api.MaxCerts), cert(3, 1), api.ErrTwice)
	notInserted(t, "no room", bigDag(api.MaxCerts), bigDag(api.MaxCerts).Certs[399], api.ErrTwice)
}

func TestInsertOrder(t *testing.T) {
	for _, h := range wrongParents(goodDag()) {
		notInserted(t, "a wrong round", goodDag(), api.Cert{Header: h, Voters: []int{1, 2, 3}}, api.ErrOrder)
	}
	full := bigDag(api.MaxCerts)
	notInserted(t, "no room", full, cert(0, 101, parentsIn(full, 100)...), api.ErrOrder)
}

func TestInsertNone(t *testing.T) {
	good := goodDag()
	second := parentsIn(good, 3)
	for _, c := range []api.Cert{
		cert(0, 3, sample(1), second[0], second[1]),
		cert(0, 3, second[0], second[1], second[2], sample(1)),
		cert(0, 3, samples(1, 2, 3)...),
		cert(0, 9, samples(1, 2, 3)...),
		cert(0, 3, second[0], second[1], digest(cert(1, 2, parentsIn(good, 2)...))),
	} {
		notInserted(t, "a missing parent", good, c, api.ErrNone)
		notInserted(t, "into an empty one", api.Dag{}, c, api.ErrNone)
	}
	notInserted(t, "no room", bigDag(api.MaxCerts), cert(0, 101, samples(1, 2, 3)...), api.ErrNone)
}

func TestInsertFull(t *testing.T) {
	full := bigDag(api.MaxCerts)
	less := api.Dag{Certs: full.Certs[:api.MaxCerts-1]}
	insert(t, less, full.Certs[api.MaxCerts-1])
	notInserted(t, "one more", full, cert(0, 101, parentsIn(full, 101)...), api.ErrFull)
	// There is room for any, round 1 too, or for none.
	some := with(dagOf(0, 1, 2), bigDagBehind(dagOf(0, 1, 2), api.MaxCerts-3)...)
	notInserted(t, "one of round 1", some, cert(3, 1), api.ErrFull)
	insert(t, api.Dag{Certs: some.Certs[:api.MaxCerts-1]}, cert(3, 1))
}

// bigDagBehind: so many certificates, round by round behind a first one.
func bigDagBehind(d api.Dag, n int) []api.Cert {
	var l []api.Cert
	now := digests(d.Certs...)
	var last [][]byte
	for i := range n {
		if i%api.Nodes == 0 {
			last, now = now, nil
		}
		c := cert(i%api.Nodes, 2+i/api.Nodes, last...)
		l, now = append(l, c), append(now, digest(c))
	}
	return l
}

// P5.5

func TestRound(t *testing.T) {
	for i, c := range []struct {
		dag  api.Dag
		want int
	}{
		{api.Dag{}, 1},
		{dagOf(0), 1},
		{dagOf(3, 1), 1},
		{dagOf(3, 1, 0), 2},
		{dagOf(3, 1, 0, 2), 2},
		{dagOf(3, 1, 0, -1, 0, 3), 2},
		{dagOf(3, 1, 0, -1, 0, 3, 1), 3},
		{dagOf(3, 1, 0, -1, 0, 3, 1, 2), 3},
		{goodDag(), 3},
		{bigDag(api.MaxCerts - 1), 101},
		{bigDag(api.MaxCerts - 2), 100},
		{bigDag(api.MaxCerts), 101},
	} {
		if r, e := Round(c.dag); r != c.want || e != api.OK {
			t.Errorf("case %d: %d %d, want %d", i, r, e, c.want)
		}
	}
}

// What stands behind those of a later round counts as well.
func TestRoundOfLateOnes(t *testing.T) {
	d := dagOf(0, 1, 2, -1, 0, 1)
	d = insert(t, d, cert(3, 1))
	if r, e := Round(d); r != 2 || e != api.OK {
		t.Errorf("%d %d", r, e)
	}
	d = insert(t, d, cert(3, 2, parentsIn(d, 2)...))
	if r, e := Round(d); r != 3 || e != api.OK {
		t.Errorf("%d %d", r, e)
	}
}

// As few as there may be in a round: the last dag then has the most rounds.
func TestRoundOfQuorums(t *testing.T) {
	var d api.Dag
	var last, now [][]byte
	for i := range api.MaxCerts {
		if i%api.Quorum == 0 {
			last, now = now, nil
		}
		c := cert(1+i%api.Quorum, 1+i/api.Quorum, last...)
		d.Certs, now = append(d.Certs, c), append(now, digest(c))
	}
	if r, e := Round(d); r != 1+api.MaxCerts/api.Quorum || e != api.OK {
		t.Errorf("%d %d", r, e)
	}
}

// P5.6

func TestDigests(t *testing.T) {
	good := goodDag()
	at := func(places ...int) [][]byte {
		var l [][]byte
		for _, p := range places {
			l = append(l, digest(good.Certs[p]))
		}
		return l
	}
	for round, want := range map[int][][]byte{
		1:                at(1, 3, 2, 0),
		2:                at(5, 4, 6),
		3:                at(8, 7),
		0:                nil,
		4:                nil,
		-1:               nil,
		api.MaxRound:     nil,
		api.MaxRound + 1: nil,
		math.MinInt:      nil,
		math.MaxInt:      nil,
	} {
		if l, e := Digests(good, round); e != api.OK || !sameLists(l, want) {
			t.Errorf("round %d: %x %d", round, l, e)
		}
		if l, e := Digests(api.Dag{}, round); e != api.OK || len(l) != 0 {
			t.Errorf("round %d of an empty dag: %x %d", round, l, e)
		}
	}
	d := bigDag(api.MaxCerts)
	for _, round := range []int{1, 50, 100} {
		if l, e := Digests(d, round); e != api.OK || !sameLists(l, parentsIn(d, round+1)) {
			t.Errorf("round %d: %x %d", round, l, e)
		}
	}
}

// In whatever order they were put in: by their authors.
func TestDigestsByAuthors(t *testing.T) {
	want := parentsIn(dagOf(0, 1, 2, 3), 2)
	for _, authors := range [][]int{{3, 2, 1, 0}, {0, 3, 1, 2}, {2, 3, 0, 1}, {1, 0, 3, 2}} {
		if l, e := Digests(dagOf(authors...), 1); e != api.OK || !sameLists(l, want) {
			t.Errorf("%v: %x %d", authors, l, e)
		}
	}
}

// A digest that is worked out once and for all: wire's tests hold it.
func TestDigestsAreKnown(t *testing.T) {
	want := []byte("\x56\x7d\x65\x0f\xab\x0a\x6e\x09\x96\x73\x25\xa3\x10\x61\x13\xfa\x3b\xc2\x84\x7b\xf0\x85\x61\x5a\x3a\xf8\x70\x9d\xc4\xc4\x75\xee")
	if l, e := Digests(dagOf(0), 1); e != api.OK || !sameLists(l, [][]byte{want}) {
		t.Errorf("%x %d", l, e)
	}
	if c, e := Find(dagOf(0), want); e != api.OK || !same(c, cert(0, 1)) {
		t.Errorf("%v %d", c, e)
	}
}

// All of P5: a drawn walk, held against what the chapter says in its order.

// A model: what was put in, by author and round, and rounds by digests.
type model struct {
	certs  []api.Cert
	rounds map[string]int
	there  map[[2]int][]byte
}

func (m *model) insert(c api.Cert) api.Errno {
	if e := wire.CheckCert(c); e != api.OK {
		return e
	}
	if m.there[[2]int{c.Header.Author, c.Header.Round}] != nil {
		return api.ErrTwice
	}
	missed, e := m.missing(c.Header)
	if e != api.OK {
		return e
	}
	if len(missed) > 0 {
		return api.ErrNone
	}
	m.certs = append(m.certs, c)
	m.rounds[string(digest(c))] = c.Header.Round
	m.there[[2]int{c.Header.Author, c.Header.Round}] = digest(c)
	return api.OK
}

func (m *model) missing(h api.Header) ([][]byte, api.Errno) {
	if e := wire.CheckHeader(h); e != api.OK {
		return nil, e
	}
	var missed [][]byte
	for _, p := range h.Parents {
		round, there := m.rounds[string(p)]
		if there && round != h.Round-1 {
			return nil, api.ErrOrder
		}
	}
	for _, p := range h.Parents {
		if m.rounds[string(p)] == 0 {
			missed = append(missed, p)
		}
	}
	return missed, api.OK
}

func (m *model) digests(round int) [][]byte {
	var l [][]byte
	for author := range api.Nodes {
		if k := m.there[[2]int{author, round}]; k != nil {
			l = append(l, k)
		}
	}
	return l
}

func (m *model) round() int {
	for r := 1; ; r++ {
		if len(m.digests(r)) < api.Quorum {
			return r
		}
	}
}

// draw a certificate that mostly may be put in.
func (m *model) draw(r *rand.Rand) api.Cert {
	c := cert(r.Intn(api.Nodes), max(1, m.round()-r.Intn(2)))
	if r.Intn(20) == 0 {
		c.Header.Round += r.Intn(3)
	}
	if c.Header.Round > 1 {
		c.Header.Parents = m.digests(c.Header.Round - 1)
		r.Shuffle(len(c.Header.Parents), func(i, j int) {
			l := c.Header.Parents
			l[i], l[j] = l[j], l[i]
		})
		if l := c.Header.Parents; len(l) > 0 && r.Intn(6) == 0 {
			l[r.Intn(len(l))] = sample(r.Intn(256))
		}
		if l := c.Header.Parents; len(l) > 0 && r.Intn(6) == 0 {
			l[r.Intn(len(l))] = digest(m.certs[r.Intn(len(m.certs))])
		}
	}
	if r.Intn(2) == 0 {
		c.Header.Batches = samples(r.Intn(200))
	}
	return c
}

func TestDrawnDags(t *testing.T) {
	r := rand.New(rand.NewSource(5))
	told := map[api.Errno]int{}
	for range 6 {
		m := &model{rounds: map[string]int{}, there: map[[2]int][]byte{}}
		var d api.Dag
		for i := range 150 {
			c := m.draw(r)
			wantMissed, wantE := m.missing(c.Header)
			if l, e := Missing(d, c.Header); e != wantE || !sameLists(l, wantMissed) {
				t.Fatalf("step %d: missing %v %d, want %v %d", i, l, e, wantMissed, wantE)
			}
			want := m.insert(c)
			told[want]++
			got, e := Insert(d, c)
			if e != want || e != api.OK && len(got.Certs) != 0 {
				t.Fatalf("step %d: %d, want %d", i, e, want)
			}
			if e == api.OK {
				d = got
			}
			m.hold(t, d, m.round()-r.Intn(3))
		}
	}
	for _, e := range []api.Errno{api.OK, api.ErrTwice, api.ErrOrder, api.ErrNone} {
		if told[e] < 10 {
			t.Errorf("%d was told %d times", e, told[e])
		}
	}
}

// hold a dag against the model.
func (m *model) hold(t *testing.T, d api.Dag, round int) {
	t.Helper()
	if !sameDags(d, api.Dag{Certs: m.certs}) || Check(d) != api.OK {
		t.Fatalf("%v", d)
	}
	if r, e := Round(d); r != m.round() || e != api.OK {
		t.Fatalf("round %d %d, want %d", r, e, m.round())
	}
	if l, e := Digests(d, round); e != api.OK || !sameLists(l, m.digests(round)) {
		t.Fatalf("digests of %d: %v %d", round, l, e)
	}
	for _, k := range m.digests(round) {
		if c, e := Find(d, k); e != api.OK || !bytes.Equal(digest(c), k) {
			t.Fatalf("find: %v %d", c, e)
		}
	}
}

// What comes of it: whoever has a certificate has all that it stands on.
func TestNothingIsMissing(t *testing.T) {
	d := goodDag()
	for i, c := range d.Certs {
		for _, p := range c.Header.Parents {
			got, e := Find(api.Dag{Certs: d.Certs[:i]}, p)
			if e != api.OK || got.Header.Round != c.Header.Round-1 {
				t.Errorf("certificate %d: %v %d", i, got, e)
			}
		}
	}
}

// What holds everywhere: arguments stay, answers are new.

func roomyDigests(l [][]byte) [][]byte {
	var roomy [][]byte
	for _, k := range append(append([][]byte{}, l...), sample(0xcc)) {
		roomy = append(roomy, append(append([]byte{}, k...), 0xdd, 0xdd)[:len(k)])
	}
	return roomy[:len(l)]
}

func roomyCert(c api.Cert) api.Cert {
	c.Header.Batches, c.Header.Parents = roomyDigests(c.Header.Batches), roomyDigests(c.Header.Parents)
	c.Voters = append(append([]int{}, c.Voters...), 77)[:len(c.Voters)]
	return c
}

// roomyDag: its spare room, and that of all in it, would show a write.
func roomyDag() api.Dag {
	d := goodDag()
	d.Certs[2].Header.Batches = nil
	last := cert(0, 3, parentsIn(d, 3)...)
	last.Header.Batches = samples(21, 22, 23)
	var l []api.Cert
	for _, c := range append(d.Certs, last, cert(2, 2), cert(2, 2)) {
		l = append(l, roomyCert(c))
	}
	return api.Dag{Certs: l[:len(l)-2]}
}

// wholes: all that certificates reach, spare room too.
func wholes(l []api.Cert) []any {
	var all []any
	for _, c := range l {
		all = append(all, c, c.Voters[:len(c.Voters)+1])
		for _, list := range [][][]byte{c.Header.Batches, c.Header.Parents} {
			for _, k := range list[:len(list)+1] {
				all = append(all, k[:len(k)+2])
			}
		}
	}
	return all
}

func wholesOfDag(d api.Dag) []any { return wholes(d.Certs[:len(d.Certs)+2]) }

// fresh: a certificate that roomyDag takes.
func fresh() api.Cert {
	c := cert(2, 3, parentsIn(roomyDag(), 3)...)
	c.Header.Batches = samples(31, 32)
	return roomyCert(c)
}

func TestArgumentsStay(t *testing.T) {
	d, c := roomyDag(), fresh()
	h := fresh()
	h.Header.Parents[1] = roomyDigests(samples(1))[0]
	k := roomyDigests([][]byte{digest(d.Certs[9])})[0]
	_, found := Find(d, k)
	_, missed := Missing(d, h.Header)
	_, inserted := Insert(d, c)
	_, round := Round(d)
	_, told := Digests(d, 2)
	if got := []api.Errno{Check(d), found, missed, inserted, round, told}; !reflect.DeepEqual(got, make([]api.Errno, 6)) {
		t.Fatalf("%v", got)
	}
	if !reflect.DeepEqual(wholesOfDag(d), wholesOfDag(roomyDag())) {
		t.Error("the dag was changed")
	}
	if !reflect.DeepEqual(wholes([]api.Cert{c}), wholes([]api.Cert{fresh()})) {
		t.Error("the certificate was changed")
	}
	want := fresh()
	want.Header.Parents[1] = roomyDigests(samples(1))[0]
	if !reflect.DeepEqual(wholes([]api.Cert{h}), wholes([]api.Cert{want})) {
		t.Error("the header was changed")
	}
	if !bytes.Equal(k[:34], append(digest(d.Certs[9]), 0xdd, 0xdd)) {
		t.Error("the digest was changed")
	}
}

func overwrite(b []byte) {
	b = b[:cap(b)]
	for i := range b {
		b[i] = 0xee
	}
}

func overwriteList(l [][]byte) {
	l = l[:cap(l)]
	for i := range l {
		overwrite(l[i])
		l[i] = nil
	}
}

func overwriteCert(c api.Cert) {
	overwriteList(c.Header.Batches)
	overwriteList(c.Header.Parents)
	v := c.Voters[:cap(c.Voters)]
	for i := range v {
		v[i] = 99
	}
}

func overwriteDag(d api.Dag) {
	l := d.Certs[:cap(d.Certs)]
	for i := range l {
		overwriteCert(l[i])
		l[i] = api.Cert{}
	}
}

// answers of all calls, of one dag.
type answers struct {
	found    api.Cert
	missed   [][]byte
	inserted api.Dag
	told     [][]byte
}

func answersOf(d api.Dag, c api.Cert, h api.Header) answers {
	var a answers
	k := digest(d.Certs[9])
	a.found, _ = Find(d, k)
	a.missed, _ = Missing(d, h)
	a.inserted, _ = Insert(d, c)
	a.told, _ = Digests(d, 2)
	return a
}

func (a answers) overwrite() {
	overwriteCert(a.found)
	overwriteList(a.missed)
	overwriteDag(a.inserted)
	overwriteList(a.told)
}

func TestAnswersAreNew(t *testing.T) {
	d, c := roomyDag(), fresh()
	h := api.Header{Round: 9, Parents: roomyDigests(samples(1, 2, 3))}
	got, other := answersOf(d, c, h), answersOf(d, c, h)
	want := answersOf(roomyDag(), fresh(), h)
	want.missed = samples(1, 2, 3)
	other.overwrite()
	if !reflect.DeepEqual(wholesOfDag(d), wholesOfDag(roomyDag())) || !reflect.DeepEqual(wholes([]api.Cert{c}), wholes([]api.Cert{fresh()})) || !sameLists(h.Parents, samples(1, 2, 3)) {
		t.Error("an answer shares memory with what was handed in")
	}
	overwriteDag(d)
	overwriteCert(c)
	overwriteList(h.Parents)
	if !same(got.found, want.found) || !sameLists(got.missed, want.missed) || !sameDags(got.inserted, want.inserted) || !sameLists(got.told, want.told) {
		t.Error("an answer hangs on what was handed in, or on another answer")
	}
}

// No two lists of one answer share memory: while one after the other is
// overwritten, those behind it stay.
func TestAnswersShareNothing(t *testing.T) {
	got, want := answersOf(roomyDag(), fresh(), api.Header{Round: 9, Parents: samples(1, 2, 3)}), answersOf(roomyDag(), fresh(), api.Header{Round: 9, Parents: samples(1, 2, 3)})
	for _, l := range [][2][][]byte{{got.missed, want.missed}, {got.told, want.told}, {got.found.Header.Batches, want.found.Header.Batches}} {
		for i := range l[0] {
			if !reflect.DeepEqual(l[0][i:], l[1][i:]) {
				t.Errorf("digest %d shares memory with another one", i)
			}
			overwrite(l[0][i])
		}
	}
	if !sameLists(got.found.Header.Parents, want.found.Header.Parents) {
		t.Error("batches share memory with parents")
	}
	for i := range got.inserted.Certs {
		rest := api.Dag{Certs: got.inserted.Certs[i:]}
		if !sameDags(rest, api.Dag{Certs: want.inserted.Certs[i:]}) {
			t.Errorf("certificate %d shares memory with another one", i)
		}
		overwriteCert(got.inserted.Certs[i])
	}
}
