package order

import (
	"bytes"
	"math"
	"math/rand"
	"reflect"
	"strconv"
	"strings"
	"testing"

	"sheaves/api"
	"sheaves/dag"
	"sheaves/wire"
)

// sample: a digest that no other number has (of 0 to 255), and neither a
// certificate nor a batch.
func sample(n int) []byte { return bytes.Repeat([]byte{byte(n)}, 32) }

func batch(author, number int, txs ...string) api.Batch {
	return api.Batch{Author: author, Number: number, Txs: txs}
}

func batchDigest(b api.Batch) []byte {
	k, e := wire.BatchDigest(b)
	if e != api.OK {
		panic("a batch that may not be")
	}
	return k
}

func batchDigests(l ...api.Batch) [][]byte {
	var all [][]byte
	for _, b := range l {
		all = append(all, batchDigest(b))
	}
	return all
}

func cert(author, round int, parents ...api.Cert) api.Cert {
	return api.Cert{Header: api.Header{Author: author, Round: round, Parents: digests(parents...)}, Voters: []int{0, 1, 2}}
}

// naming: the certificate with batches of those digests.
func naming(c api.Cert, batches ...[]byte) api.Cert {
	c.Header.Batches = batches
	return c
}

func digest(c api.Cert) []byte {
	k, e := wire.HeaderDigest(c.Header)
	if e != api.OK {
		panic("a header that may not be")
	}
	return k
}

func digests(l ...api.Cert) [][]byte {
	var all [][]byte
	for _, c := range l {
		all = append(all, digest(c))
	}
	return all
}

func dagOf(l ...api.Cert) api.Dag { return api.Dag{Certs: l} }

// bigDag has so many certificates, each round's of all nodes; of each one all
// of the round ahead are parents, so that the ways to the first ones are more
// than can be gone one by one.
func bigDag(n int) api.Dag {
	var d api.Dag
	for i := range n {
		start := max(0, i-i%api.Nodes-api.Nodes)
		d.Certs = append(d.Certs, cert(i%api.Nodes, 1+i/api.Nodes, d.Certs[start:i-i%api.Nodes]...))
	}
	return d
}

// sameLists: lists without elements are the same, nil or not.
func sameLists(a, b [][]byte) bool {
	return len(a) == len(b) && (len(a) == 0 || reflect.DeepEqual(a, b))
}

func sameTexts(a, b []string) bool {
	return len(a) == len(b) && (len(a) == 0 || reflect.DeepEqual(a, b))
}

func wantHistory(t *testing.T, what string, d api.Dag, c api.Cert, want ...api.Cert) {
	t.Helper()
	if got, e := History(d, digest(c)); e != api.OK || !sameLists(got, digests(want...)) {
		t.Errorf("%s: %x %d, want %x", what, got, e, digests(want...))
	}
}

func wantBlock(t *testing.T, what string, d api.Dag, l []api.Batch, c api.Cert, want ...string) {
	t.Helper()
	if got, e := Block(d, l, digest(c)); e != api.OK || !sameTexts(got, want) {
		t.Errorf("%s: %q %d, want %q", what, got, e, want)
	}
}

func wantBlockError(t *testing.T, what string, d api.Dag, l []api.Batch, k []byte, want api.Errno) {
	t.Helper()
	if got, e := Block(d, l, k); len(got) != 0 || e != want {
		t.Errorf("%s: %q %d, want %d", what, got, e, want)
	}
}

// rounds: three rounds of certificates; their parents are some of the round
// ahead, not by their authors.
func rounds() (r1, r2, r3 []api.Cert) {
	for a := range api.Nodes {
		r1 = append(r1, cert(a, 1))
	}
	r2 = []api.Cert{
		cert(0, 2, r1[2], r1[1], r1[0]),
		cert(1, 2, r1[0], r1[2], r1[1]),
		cert(2, 2, r1[1], r1[0], r1[2]),
		cert(3, 2, r1[3], r1[2], r1[1]),
	}
	r3 = []api.Cert{
		cert(0, 3, r2[2], r2[0], r2[1]),
		cert(1, 3, r2[3], r2[1], r2[0]),
		cert(2, 3, r2[3], r2[2], r2[1], r2[0]),
	}
	return r1, r2, r3
}

func together(lists ...[]api.Cert) []api.Cert {
	var all []api.Cert
	for _, l := range lists {
		all = append(all, l...)
	}
	return all
}

// P6.1

func TestHistoryOfFirstRound(t *testing.T) {
	r1, r2, r3 := rounds()
	all := dagOf(together(r1, r2, r3)...)
	for a, c := range r1 {
		wantHistory(t, "alone in its dag", dagOf(c), c, c)
		wantHistory(t, "author "+strconv.Itoa(a), all, c, c)
	}
}

func TestHistoryOfTwoRounds(t *testing.T) {
	r1, r2, r3 := rounds()
	all := dagOf(together(r1, r2, r3)...)
	for _, c := range r2[:3] {
		wantHistory(t, "without author 3", all, c, r1[0], r1[1], r1[2], c)
	}
	wantHistory(t, "without author 0", all, r2[3], r1[1], r1[2], r1[3], r2[3])
	four := cert(3, 2, r1[3], r1[1], r1[0], r1[2])
	wantHistory(t, "all four", dagOf(append(r1, four)...), four, r1[0], r1[1], r1[2], r1[3], four)
}

// Parents are shared: each stands once. What is not reached is left out: of
// the first round the one of author 3 (unless author 3's of round 2 is
// reached), of the second one that nobody names, and all of later rounds.
func TestHistoryOfThreeRounds(t *testing.T) {
	r1, r2, r3 := rounds()
	late := cert(0, 4, r3...)
	all := dagOf(append(together(r1, r2, r3), late)...)
	wantHistory(t, "author 0", all, r3[0], r1[0], r1[1], r1[2], r2[0], r2[1], r2[2], r3[0])
	wantHistory(t, "author 1", all, r3[1], r1[0], r1[1], r1[2], r1[3], r2[0], r2[1], r2[3], r3[1])
	wantHistory(t, "author 2", all, r3[2], r1[0], r1[1], r1[2], r1[3], r2[0], r2[1], r2[2], r2[3], r3[2])
	wantHistory(t, "the last one", all, late, append(together(r1, r2, r3), late)...)
}

// A round is a number, not a text or a byte; that of bigDag goes to 100.
func TestHistoryOfMany(t *testing.T) {
	d := bigDag(api.MaxCerts)
	for _, at := range []int{0, 3, 4, 37, 40, 395, 396, 398, 399} {
		c := d.Certs[at]
		want := append(append([]api.Cert{}, d.Certs[:at-at%api.Nodes]...), c)
		wantHistory(t, "place "+strconv.Itoa(at), d, c, want...)
	}
}

// shuffled: the certificates in another order, each behind its parents.
func shuffled(r *rand.Rand, d api.Dag) api.Dag {
	var out api.Dag
	there := map[string]bool{}
	for len(out.Certs) < len(d.Certs) {
		for _, i := range r.Perm(len(d.Certs)) {
			c := d.Certs[i]
			ready := !there[string(digest(c))]
			for _, p := range c.Header.Parents {
				ready = ready && there[string(p)]
			}
			if ready {
				out.Certs, there[string(digest(c))] = append(out.Certs, c), true
			}
			if ready && r.Intn(3) == 0 {
				break
			}
		}
	}
	return out
}

func TestHistoryWhateverTheOrder(t *testing.T) {
	r1, r2, r3 := rounds()
	d := dagOf(together(r1, r2, r3)...)
	r := rand.New(rand.NewSource(61))
	for range 40 {
		x := shuffled(r, d)
		if e := dag.Check(x); e != api.OK {
			t.Fatalf("shuffled wrongly: %d", e)
		}
		wantHistory(t, "shuffled", x, r3[1], r1[0], r1[1], r1[2], r1[3], r2[0], r2[1], r2[3], r3[1])
		wantHistory(t, "shuffled", x, r3[0], r1[0], r1[1], r1[2], r2[0], r2[1], r2[2], r3[0])
	}
	// A later author ahead of an earlier one, a later round ahead of the rest of the one ahead.
	x := dagOf(r1[2], r1[1], r1[0], r2[2], r2[1], r1[3], r2[3], r2[0], r3[2])
	wantHistory(t, "turned over", x, r3[2], r1[0], r1[1], r1[2], r1[3], r2[0], r2[1], r2[2], r2[3], r3[2])
}

// wrongDags: of each kind that may not be some.
func wrongDags() []api.Dag {
	r1, r2, r3 := rounds()
	few := cert(0, 1)
	few.Voters = []int{0, 1}
	other := naming(cert(0, 1), sample(1))
	return []api.Dag{
		{Certs: make([]api.Cert, 1)},
		{Certs: make([]api.Cert, 1<<20)},
		bigDag(api.MaxCerts + 1),
		dagOf(few),
		dagOf(r1[0], r1[0]),
		dagOf(r1[0], other),
		dagOf(r1[0], r1[1], r2[0]),
		dagOf(r1[0], r1[1], r2[0], r1[2]),
		dagOf(together(r1, r3)...),
		dagOf(together(r1, r2[:2], r3)...),
		dagOf(append(together(r1, r2), cert(3, 3, r1...))...),
		dagOf(append(together(r1), cert(api.Nodes, 1))...),
		dagOf(append(together(r1), cert(1, 0))...),
		dagOf(append(together(r1), naming(cert(1, 1), sample(1), sample(1)))...),
	}
}

// strangers: digests that no certificate of rounds has.
func strangers() [][]byte {
	r1, r2, _ := rounds()
	near := digest(r1[1])
	near[0]++
	return [][]byte{
		nil, {}, {0}, make([]byte, 32), sample(1), near,
		digest(r1[1])[:31],
		append(digest(r1[1]), 0),
		append(digest(r1[0]), digest(r1[1])...),
		digest(cert(3, 3, r2[0], r2[1], r2[2])),
		batchDigest(batch(0, 1, "a")),
		make([]byte, 1<<16),
	}
}

func TestHistoryErrors(t *testing.T) {
	first := digest(cert(0, 1))
	for i, d := range wrongDags() {
		for _, k := range append(strangers(), first) {
			if l, e := History(d, k); len(l) != 0 || e != api.ErrState {
				t.Errorf("dag %d, digest %x: %x %d", i, k, l, e)
			}
		}
	}
	r1, r2, r3 := rounds()
	for i, d := range []api.Dag{{}, {Certs: []api.Cert{}}, dagOf(r1...), dagOf(together(r1, r2, r3)...)} {
		for _, k := range strangers() {
			if l, e := History(d, k); len(l) != 0 || e != api.ErrNone {
				t.Errorf("dag %d, digest %x: %x %d", i, k, l, e)
			}
		}
	}
	// A header's batch is no certificate, a certificate of another dag neither.
	if l, e := History(dagOf(naming(r1[0], sample(9))), sample(9)); len(l) != 0 || e != api.ErrNone {
		t.Errorf("a batch: %x %d", l, e)
	}
	if l, e := History(dagOf(r1...), digest(r2[0])); len(l) != 0 || e != api.ErrNone {
		t.Errorf("not there yet: %x %d", l, e)
	}
}

// P6.2

// manyBatches, all different.
func manyBatches(n int) []api.Batch {
	var l []api.Batch
	for i := range n {
		l = append(l, batch(i%api.Nodes, 1+i/api.Nodes, "t"+strconv.Itoa(i)))
	}
	return l
}

func TestCheckBatches(t *testing.T) {
	long := strings.Repeat("x", api.MaxTx)
	for i, l := range [][]api.Batch{
		nil,
		{},
		{batch(0, 1, "a")},
		{batch(3, api.MaxRound, long, long, long, "\x00")},
		{batch(0, 1, "a"), batch(1, 1, "a")},      // another author
		{batch(0, 1, "a"), batch(0, 2, "a")},      // another number
		{batch(0, 1, "a"), batch(0, 1, "b")},      // other transactions
		{batch(0, 1, "a"), batch(0, 1, "a", "a")}, // one more
		{batch(0, 1, "a", "b"), batch(0, 1, "b", "a")},
		{batch(0, 1, "ab", "c"), batch(0, 1, "a", "bc")},
		{batch(0, 9, "z"), batch(0, 1, "z")}, // in no order
		manyBatches(api.MaxHeld - 1),
		manyBatches(api.MaxHeld),
	} {
		if e := CheckBatches(l); e != api.OK {
			t.Errorf("batches %d: %d", i, e)
		}
	}
}

// wrongBatches: those that may not be, each by itself.
func wrongBatches() []api.Batch {
	l := []api.Batch{
		{},
		batch(0, 1),
		{Author: 0, Number: 1, Txs: []string{}},
		batch(0, 1, ""),
		batch(0, 1, "a", ""),
		batch(0, 1, "a", "b", "c", "d", "e"),
		batch(0, 1, strings.Repeat("x", api.MaxTx+1)),
		batch(0, 1, "a", "b", "c", strings.Repeat("x", 1<<16)),
	}
	for _, n := range []int{-1, api.Nodes, 256, 1 << 32, math.MinInt, math.MaxInt} {
		l = append(l, batch(n, 1, "a"))
	}
	for _, n := range []int{0, -1, api.MaxRound + 1, 1<<24 + 1, math.MinInt, math.MaxInt} {
		l = append(l, batch(0, n, "a"))
	}
	return l
}

// wrongLists of batches.
func wrongLists() [][]api.Batch {
	full := manyBatches(api.MaxHeld)
	same := batch(1, 1, "t1") // as manyBatches has it at the place 1
	l := [][]api.Batch{
		manyBatches(api.MaxHeld + 1),
		make([]api.Batch, 1<<20),
		{same, same},
		append([]api.Batch{batch(9, 9)}, full[1:]...),
		append(manyBatches(api.MaxHeld-1), same),
		append([]api.Batch{same}, full[1:]...),
		{full[0], same, full[2], full[1]},
	}
	for _, b := range wrongBatches() {
		l = append(l,
			[]api.Batch{b},
			[]api.Batch{b, full[3], full[4]},
			[]api.Batch{full[3], b, full[4]},
			[]api.Batch{full[3], full[4], b})
	}
	return l
}

func TestCheckBatchesErrors(t *testing.T) {
	for i, l := range wrongLists() {
		if e := CheckBatches(l); e != api.ErrState {
			t.Errorf("batches %d: %d", i, e)
		}
	}
}

// Wherever a batch stands, it may not stand once more.
func TestCheckBatchesTwiceAnywhere(t *testing.T) {
	for i := range 6 {
		for j := range 6 {
			l := manyBatches(6)
			l[j] = batch(l[i].Author, l[i].Number, l[i].Txs...)
			want := api.ErrState
			if i == j {
				want = api.OK
			}
			if e := CheckBatches(l); e != want {
				t.Errorf("batch %d at %d: %d", i, j, e)
			}
		}
	}
}

// P6.3

func TestBlockWithoutBatches(t *testing.T) {
	r1, r2, r3 := rounds()
	all := dagOf(together(r1, r2, r3)...)
	for _, l := range [][]api.Batch{nil, {}, manyBatches(1), manyBatches(api.MaxHeld)} {
		for _, c := range all.Certs {
			wantBlock(t, "headers without batches", all, l, c)
		}
	}
}

// In the order of the header's Batches, whatever that of the batches; those
// that no header names are left out.
func TestBlockOfOneHeader(t *testing.T) {
	l := []api.Batch{batch(0, 1, "b", "a"), batch(1, 7, "d", "c"), batch(0, 2, "f", "e"), batch(3, 3, "h", "g")}
	for _, c := range []struct {
		places []int
		want   []string
	}{
		{nil, nil},
		{[]int{0}, []string{"b", "a"}},
		{[]int{3}, []string{"h", "g"}},
		{[]int{0, 1, 2}, []string{"b", "a", "d", "c", "f", "e"}},
		{[]int{2, 1, 0}, []string{"f", "e", "d", "c", "b", "a"}},
		{[]int{1, 3}, []string{"d", "c", "h", "g"}},
		{[]int{3, 0, 1}, []string{"h", "g", "b", "a", "d", "c"}},
	} {
		one := cert(2, 1)
		for _, at := range c.places {
			one.Header.Batches = append(one.Header.Batches, batchDigest(l[at]))
		}
		wantBlock(t, "one header", dagOf(cert(0, 1), one), l, one, c.want...)
	}
}

// Header by header, by their Rounds and then by their Authors, whatever the
// order of the dag, of the numbers and of the authors of the batches.
func TestBlockOfSeveralHeaders(t *testing.T) {
	l := []api.Batch{batch(0, 9, "1", "2"), batch(0, 8, "3"), batch(3, 2, "4"), batch(3, 1, "5", "6"), batch(1, 1, "7"), batch(2, 5, "8"), batch(2, 6, "9")}
	k := batchDigests(l...)
	r1 := []api.Cert{naming(cert(0, 1), k[0]), naming(cert(1, 1), k[1], k[2]), cert(2, 1), naming(cert(3, 1), k[3])}
	r2 := []api.Cert{cert(0, 2, r1...), naming(cert(1, 2, r1[:3]...), k[4]), naming(cert(3, 2, r1[2], r1[1], r1[0]), k[5])}
	last := naming(cert(2, 3, r2[2], r2[1], r2[0]), k[6])
	for _, d := range []api.Dag{
		dagOf(append(together(r1, r2), last)...),
		dagOf(r1[3], r1[2], r1[1], r1[0], r2[2], r2[1], r2[0], last),
		dagOf(r1[2], r1[0], r1[1], r2[1], r2[2], r1[3], r2[0], last),
	} {
		wantBlock(t, "the last one", d, l, last, "1", "2", "3", "4", "5", "6", "7", "8", "9")
		wantBlock(t, "without author 3 of round 1", d, l, r2[1], "1", "2", "3", "4", "7")
		wantBlock(t, "of round 2, without a batch", d, l, r2[0], "1", "2", "3", "4", "5", "6")
		wantBlock(t, "of round 1", d, l, r1[1], "3", "4")
		wantBlock(t, "of round 1, without a batch", d, l, r1[2])
	}
}

func TestBlockTellsTextsOnce(t *testing.T) {
	for i, c := range []struct {
		batches []api.Batch
		want    []string
	}{
		{[]api.Batch{batch(0, 1, "a", "a")}, []string{"a"}},
		{[]api.Batch{batch(0, 1, "a", "b", "a", "b")}, []string{"a", "b"}},
		{[]api.Batch{batch(0, 1, "b", "a"), batch(0, 2, "a", "b")}, []string{"b", "a"}},
		{[]api.Batch{batch(0, 1, "a"), batch(0, 2, "a"), batch(1, 1, "a")}, []string{"a"}},
		{[]api.Batch{batch(0, 1, "c", "a"), batch(0, 2, "b", "a"), batch(0, 3, "c", "d")}, []string{"c", "a", "b", "d"}},
		// Texts that are near each other are not the same.
		{[]api.Batch{batch(0, 1, "a", "A", "a\x00", "aa"), batch(0, 2, "\x00", "\x00\x00", "\xff", " a")}, []string{"a", "A", "a\x00", "aa", "\x00", "\x00\x00", "\xff", " a"}},
		{[]api.Batch{batch(0, 1, "\xff", "\xfe"), batch(0, 2, "\xef\xbf\xbd", "\xff")}, []string{"\xff", "\xfe", "\xef\xbf\xbd"}},
	} {
		one := naming(cert(1, 1), batchDigests(c.batches...)...)
		wantBlock(t, "texts "+strconv.Itoa(i), dagOf(one), c.batches, one, c.want...)
	}
}

// A text of two headers stands with the first one of them, in the history's
// order; so does a batch that two headers name.
func TestBlockTellsTextsOnceInHeaders(t *testing.T) {
	l := []api.Batch{batch(0, 1, "x", "c"), batch(0, 2, "b", "x"), batch(0, 3, "a", "b", "c")}
	k := batchDigests(l...)
	r1 := []api.Cert{naming(cert(0, 1), k[2]), naming(cert(1, 1), k[1]), cert(2, 1)}
	last := naming(cert(0, 2, r1[2], r1[1], r1[0]), k[0], k[1])
	wantBlock(t, "by authors", dagOf(r1[1], r1[2], r1[0], last), l, last, "a", "b", "c", "x")
	r1 = []api.Cert{naming(cert(0, 1), k[0], k[1]), naming(cert(1, 1), k[1], k[0]), cert(2, 1)}
	last = naming(cert(3, 2, r1[1], r1[2], r1[0]), k[1], k[2], k[0])
	wantBlock(t, "named twice", dagOf(r1[1], r1[2], r1[0], last), l, last, "x", "c", "b", "a")
	wantBlock(t, "of author 1", dagOf(r1[1], r1[2], r1[0], last), l, r1[1], "b", "x", "c")
}

// MaxCerts certificates, MaxHeld batches, MaxTxs transactions each.
func TestBlockOfMany(t *testing.T) {
	var l []api.Batch
	var d api.Dag
	var want []string
	for i := range api.MaxCerts {
		c := cert(i%api.Nodes, 1+i/api.Nodes, d.Certs[max(0, i-i%api.Nodes-api.Nodes):i-i%api.Nodes]...)
		for j := range api.MaxHeld / api.MaxCerts {
			n := strconv.Itoa(2*i + j)
			b := batch(i%api.Nodes, 1+2*i+j, n, n+"b", n+"c", n+"d")
			l, c = append(l, b), naming(c, append(c.Header.Batches, batchDigest(b))...)
			if i < api.MaxCerts-api.Nodes+1 {
				want = append(want, b.Txs...)
			}
		}
		d.Certs = append(d.Certs, c)
	}
	if len(l) != api.MaxHeld {
		t.Fatalf("%d batches", len(l))
	}
	wantBlock(t, "many", d, l, d.Certs[api.MaxCerts-api.Nodes], want...)
	over := append(append([]api.Batch{}, l...), batch(0, api.MaxRound, "a"))
	wantBlockError(t, "one more", d, over, digest(d.Certs[0]), api.ErrState)
}

func TestBlockMissingBatch(t *testing.T) {
	l := []api.Batch{batch(0, 1, "1"), batch(1, 1, "2"), batch(2, 1, "3"), batch(3, 1, "4"), batch(0, 2, "5")}
	k := batchDigests(l...)
	r1 := []api.Cert{naming(cert(0, 1), k[0]), naming(cert(1, 1), k[1], k[2]), cert(2, 1), naming(cert(3, 1), k[3])}
	last := naming(cert(0, 2, r1[0], r1[1], r1[2]), k[4])
	d := dagOf(append(r1, last)...)
	for at := range l {
		less := append(append([]api.Batch{}, l[:at]...), l[at+1:]...)
		if at == 3 { // that of author 3 is not in the history
			wantBlock(t, "not needed", d, less, last, "1", "2", "3", "5")
			wantBlockError(t, "needed", d, less, digest(r1[3]), api.ErrNone)
			continue
		}
		wantBlockError(t, "without "+strconv.Itoa(at), d, less, digest(last), api.ErrNone)
		// One that is near it is not that one.
		for _, b := range []api.Batch{
			batch(l[at].Author, l[at].Number, "0"),
			batch(l[at].Author, 9, l[at].Txs...),
			batch(3-l[at].Author, l[at].Number, l[at].Txs...),
		} {
			wantBlockError(t, "another one", d, append(less, b), digest(last), api.ErrNone)
		}
	}
	wantBlockError(t, "no batches", d, nil, digest(last), api.ErrNone)
	wantBlock(t, "no batches are needed", d, nil, r1[2])
	odd := naming(cert(1, 1), sample(1))
	wantBlockError(t, "of no batch", dagOf(odd), l, digest(odd), api.ErrNone)
	odd = naming(cert(1, 1), k[0], k[1], sample(1))
	wantBlockError(t, "the last one of no batch", dagOf(odd), l, digest(odd), api.ErrNone)
	odd = naming(cert(1, 1), digest(r1[2]))
	wantBlockError(t, "a certificate's digest", dagOf(r1[2], odd), l, digest(odd), api.ErrNone)
}

// What Find refuses is told first, then what CheckBatches refuses, then a
// batch that is missing.
func TestBlockOrderOfErrors(t *testing.T) {
	first := digest(cert(0, 1))
	some := [][]api.Batch{nil, manyBatches(3), {batch(0, 1)}, {batch(0, 1, "a"), batch(0, 1, "a")}}
	for i, d := range wrongDags() {
		for _, k := range append(strangers(), first) {
			for _, l := range some {
				wantBlockError(t, "dag "+strconv.Itoa(i), d, l, k, api.ErrState)
			}
		}
	}
	needs := naming(cert(0, 1), sample(1))
	r1, r2, r3 := rounds()
	for _, d := range []api.Dag{{}, dagOf(needs), dagOf(together(r1, r2, r3)...)} {
		for _, k := range strangers() {
			for _, l := range append(wrongLists()[2:], some...) {
				wantBlockError(t, "a stranger", d, l, k, api.ErrNone)
			}
		}
	}
	for i, l := range wrongLists() {
		wantBlockError(t, "missing too, batches "+strconv.Itoa(i), dagOf(needs), l, digest(needs), api.ErrState)
		wantBlockError(t, "nothing else, batches "+strconv.Itoa(i), dagOf(r1...), l, digest(r1[0]), api.ErrState)
	}
}

// A model: certificates in a grid of rounds and authors.

type spot struct {
	there   bool
	cert    api.Cert
	parents []int // authors, of the round ahead
	batches []int // places in the model's batches
}

type model struct {
	grid    [][api.Nodes]spot
	batches []api.Batch
	dag     api.Dag
}

// drawn rounds, of three or four certificates each, the last one of some.
func drawn(r *rand.Rand) *model {
	m := &model{}
	for i := range 1 + r.Intn(12) {
		m.batches = append(m.batches, batch(r.Intn(api.Nodes), 1+i, drawnTexts(r)...))
	}
	for round := range 1 + r.Intn(6) {
		m.grid = append(m.grid, [api.Nodes]spot{})
		for _, author := range r.Perm(api.Nodes)[:api.Quorum+r.Intn(2)] {
			m.draw(r, round, author)
		}
	}
	m.dag = shuffled(r, m.dag)
	return m
}

func drawnTexts(r *rand.Rand) []string {
	var l []string
	for range 1 + r.Intn(api.MaxTxs) {
		l = append(l, string(rune('a'+r.Intn(20))))
	}
	return l
}

func (m *model) draw(r *rand.Rand, round, author int) {
	s := spot{there: true, cert: cert(author, round+1)}
	if round > 0 {
		var l []int
		for _, a := range r.Perm(api.Nodes) {
			if m.grid[round-1][a].there {
				l = append(l, a)
			}
		}
		s.parents = l[:api.Quorum+r.Intn(len(l)-api.Quorum+1)]
		for _, a := range s.parents {
			s.cert.Header.Parents = append(s.cert.Header.Parents, digest(m.grid[round-1][a].cert))
		}
	}
	s.batches = r.Perm(len(m.batches))[:min(len(m.batches), r.Intn(api.MaxBatches+1))]
	for _, at := range s.batches {
		s.cert.Header.Batches = append(s.cert.Header.Batches, batchDigest(m.batches[at]))
	}
	m.grid[round][author] = s
	m.dag.Certs = append(m.dag.Certs, s.cert)
}

// wanted of a spot: its history and its block; round by round downwards it is
// told who is needed, then upwards what these have.
func (m *model) wanted(round, author int) ([][]byte, []string) {
	need := make([][api.Nodes]bool, len(m.grid))
	need[round][author] = true
	for r := round; r > 0; r-- {
		for a := range api.Nodes {
			if need[r][a] {
				for _, p := range m.grid[r][a].parents {
					need[r-1][p] = true
				}
			}
		}
	}
	var history [][]byte
	var block []string
	for r := range need {
		for a := range api.Nodes {
			if need[r][a] {
				history = append(history, digest(m.grid[r][a].cert))
				block = m.addTexts(block, m.grid[r][a])
			}
		}
	}
	return history, block
}

func (m *model) addTexts(block []string, s spot) []string {
	for _, at := range s.batches {
		for _, t := range m.batches[at].Txs {
			known := false
			for _, old := range block {
				known = known || old == t
			}
			if !known {
				block = append(block, t)
			}
		}
	}
	return block
}

// ahead: just the certificates that a history names, so that nothing hangs on
// the others.
func (m *model) ahead(history [][]byte) api.Dag {
	var d api.Dag
	for _, c := range m.dag.Certs {
		for _, k := range history {
			if bytes.Equal(k, digest(c)) {
				d.Certs = append(d.Certs, c)
			}
		}
	}
	return d
}

// What comes of it: the block of a certificate hangs on it alone.
func TestDrawn(t *testing.T) {
	r := rand.New(rand.NewSource(6))
	for range 150 {
		m := drawn(r)
		for round := range m.grid {
			for author, s := range m.grid[round] {
				if !s.there {
					continue
				}
				history, block := m.wanted(round, author)
				k := digest(s.cert)
				for _, d := range []api.Dag{m.dag, m.ahead(history)} {
					if got, e := History(d, k); e != api.OK || !sameLists(got, history) {
						t.Fatalf("history: %x %d, want %x", got, e, history)
					}
					wantBlock(t, "drawn", d, turned(m.batches, r.Intn(len(m.batches))), s.cert, block...)
				}
			}
		}
	}
}

// turned: the same batches, in another order.
func turned(l []api.Batch, n int) []api.Batch {
	return append(append([]api.Batch{}, l[n:]...), l[:n]...)
}

// What holds everywhere: arguments stay, answers are new.

func roomy(b []byte) []byte { return append(append([]byte{}, b...), 0xdd, 0xdd)[:len(b)] }

func roomyDigests(l [][]byte) [][]byte {
	var all [][]byte
	for _, k := range append(append([][]byte{}, l...), sample(0xcc)) {
		all = append(all, roomy(k))
	}
	return all[:len(l)]
}

// scene: a dag, batches and a digest; their spare room, and that of all in
// them, would show a write.
type scene struct {
	dag     api.Dag
	batches []api.Batch
	k       []byte
}

func roomyScene() scene {
	l := []api.Batch{batch(0, 1, "b", "a"), batch(1, 1, "a", "c"), batch(2, 1, "d"), batch(3, 1, "unnamed")}
	k := batchDigests(l...)
	r1 := []api.Cert{naming(cert(3, 1), k[2]), naming(cert(1, 1), k[1], k[0]), cert(0, 1), cert(2, 1)}
	last := naming(cert(2, 2, r1[:3]...), k[0])
	s := scene{k: roomy(digest(last))}
	for _, c := range append(r1, last, cert(3, 1)) {
		c.Header.Batches, c.Header.Parents = roomyDigests(c.Header.Batches), roomyDigests(c.Header.Parents)
		c.Voters = append(append([]int{}, c.Voters...), 77)[:len(c.Voters)]
		s.dag.Certs = append(s.dag.Certs, c)
	}
	for _, b := range append(l, batch(1, 2, "spare")) {
		b.Txs = append(append([]string{}, b.Txs...), "room")[:len(b.Txs)]
		s.batches = append(s.batches, b)
	}
	s.dag.Certs, s.batches = s.dag.Certs[:len(s.dag.Certs)-1], s.batches[:len(s.batches)-1]
	return s
}

// wholes: all that a scene reaches, spare room too.
func (s scene) wholes() []any {
	all := []any{s.k[:len(s.k)+2]}
	for _, c := range s.dag.Certs[:len(s.dag.Certs)+1] {
		all = append(all, c, c.Voters[:len(c.Voters)+1])
		for _, list := range [][][]byte{c.Header.Batches, c.Header.Parents} {
			for _, k := range list[:len(list)+1] {
				all = append(all, k[:len(k)+2])
			}
		}
	}
	for _, b := range s.batches[:len(s.batches)+1] {
		all = append(all, b, b.Txs[:len(b.Txs)+1])
	}
	return all
}

func (s scene) answers(t *testing.T) ([][]byte, []string) {
	t.Helper()
	history, e := History(s.dag, s.k)
	block, f := Block(s.dag, s.batches, s.k)
	if g := CheckBatches(s.batches); e != api.OK || f != api.OK || g != api.OK {
		t.Fatalf("%d %d %d", e, f, g)
	}
	return history, block
}

func TestArgumentsStay(t *testing.T) {
	s := roomyScene()
	s.answers(t)
	if _, e := Block(s.dag, s.batches[1:], s.k); e != api.ErrNone {
		t.Errorf("%d", e)
	}
	if !reflect.DeepEqual(s.wholes(), roomyScene().wholes()) {
		t.Error("what was handed in was changed")
	}
}

func overwrite(b []byte) {
	b = b[:cap(b)]
	for i := range b {
		b[i] = 0xee
	}
}

func overwriteList(l [][]byte) {
	l = l[:cap(l)]
	for i := range l {
		overwrite(l[i])
		l[i] = nil
	}
}

func overwriteTexts(l []string) {
	l = l[:cap(l)]
	for i := range l {
		l[i] = "?"
	}
}

func (s scene) overwrite() {
	overwrite(s.k)
	for _, c := range s.dag.Certs {
		overwriteList(c.Header.Batches)
		overwriteList(c.Header.Parents)
	}
	for _, b := range s.batches {
		overwriteTexts(b.Txs)
	}
}

func TestAnswersAreNew(t *testing.T) {
	s := roomyScene()
	history, block := s.answers(t)
	otherHistory, otherBlock := s.answers(t)
	wantHistory, wantBlock := roomyScene().answers(t)
	if len(history) != 4 || !sameTexts(block, []string{"a", "c", "b", "d"}) {
		t.Fatalf("%x %q", history, block)
	}
	overwriteList(otherHistory)
	overwriteTexts(otherBlock)
	if !reflect.DeepEqual(s.wholes(), roomyScene().wholes()) {
		t.Error("an answer shares memory with what was handed in")
	}
	s.overwrite()
	if !sameLists(history, wantHistory) || !sameTexts(block, wantBlock) {
		t.Error("an answer hangs on what was handed in, or on another answer")
	}
}

// No two lists of one answer share memory: while one after the other is
// overwritten, those behind it stay.
func TestAnswersShareNothing(t *testing.T) {
	got, _ := roomyScene().answers(t)
	want, _ := roomyScene().answers(t)
	for i := range got {
		if !sameLists(got[i:], want[i:]) {
			t.Errorf("digest %d shares memory with another one", i)
		}
		overwrite(got[i])
	}
}

// A block of one batch, all of whose texts are told, shares nothing with it.
func TestBlockOfOneBatchIsNew(t *testing.T) {
	b := batch(0, 1, "a", "b", "c")
	b.Txs = append(b.Txs, "room")[:3]
	one := naming(cert(0, 1), batchDigest(b))
	got, e := Block(dagOf(one), []api.Batch{b}, digest(one))
	if e != api.OK || !sameTexts(got, b.Txs) {
		t.Fatalf("%q %d", got, e)
	}
	overwriteTexts(got)
	if !sameTexts(b.Txs[:4], []string{"a", "b", "c", "room"}) {
		t.Errorf("%q", b.Txs[:4])
	}
}
