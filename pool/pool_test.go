package pool

import (
	"math"
	"math/rand"
	"reflect"
	"slices"
	"strconv"
	"strings"
	"testing"

	"sheaves/api"
)

// txs: so many transactions, all different, counted from a number on.
func txs(from, n int) []string {
	var l []string
	for i := range n {
		l = append(l, "t"+strconv.Itoa(from+i))
	}
	return l
}

func poolOf(next, n int) api.Pool { return api.Pool{Next: next, Txs: txs(0, n)} }

var (
	goodNexts = []int{1, 2, api.MaxRound - 1, api.MaxRound, api.MaxRound + 1}
	noNexts   = []int{0, -1, api.MaxRound + 2, api.MaxRound + 3, 2 * api.MaxRound, 1 << 32, 1<<32 + 1, math.MinInt, math.MaxInt}
	noNodes   = []int{-1, api.Nodes, api.Nodes + 1, 255, 256, 1 << 32, math.MinInt, math.MaxInt}
)

// goodTxs: at the edges, and of any bytes.
func goodTxs() []string {
	return []string{
		"a", " ", "\x00", "\xff", "A", "ab", "é", "\n", "a ", " a", "a\x00",
		strings.Repeat("x", api.MaxTx-1),
		strings.Repeat("x", api.MaxTx),
		strings.Repeat("\x00", api.MaxTx),
		strings.Repeat("é", api.MaxTx/2),
	}
}

// wrongTxs: their length is told in bytes.
func wrongTxs() []string {
	return []string{
		"",
		strings.Repeat("x", api.MaxTx+1),
		strings.Repeat("\x00", api.MaxTx+1),
		strings.Repeat("é", api.MaxTx/2) + "x",
		strings.Repeat("é", api.MaxTx),
		strings.Repeat("x", 256),
		strings.Repeat("x", 257),
		strings.Repeat("x", 1<<20),
	}
}

// wrongPools: of each kind of pools that Check refuses some.
func wrongPools() []api.Pool {
	l := []api.Pool{
		{},
		{Txs: []string{"a"}},
		poolOf(1, api.MaxPool+1),
		poolOf(1, 2*api.MaxPool),
		{Next: 1, Txs: []string{"a", "a"}},
		{Next: api.MaxRound + 1, Txs: []string{"a", "b", "a"}},
		{Next: 1, Txs: append(txs(0, api.MaxPool-1), "t0")},
		{Next: 1, Txs: append(txs(0, api.MaxPool-1), "t38")},
		{Next: 1, Txs: make([]string, api.MaxPool)},
	}
	for _, n := range noNexts {
		l = append(l, api.Pool{Next: n}, poolOf(n, 1), poolOf(n, api.MaxPool))
	}
	for _, t := range wrongTxs() {
		l = append(l,
			api.Pool{Next: 1, Txs: []string{t}},
			api.Pool{Next: 1, Txs: append(txs(0, 3), t)},
			api.Pool{Next: 1, Txs: append([]string{t}, txs(0, 3)...)},
			api.Pool{Next: api.MaxRound + 1, Txs: append(txs(0, api.MaxPool-1), t)},
		)
	}
	return l
}

// same: a list without elements may be nil or not.
func same(a, b []string) bool { return slices.Equal(a, b) }

func isPool(p api.Pool, next int, l []string) bool { return p.Next == next && same(p.Txs, l) }

func isBatch(b api.Batch, author, number int, l []string) bool {
	return b.Author == author && b.Number == number && same(b.Txs, l)
}

// isEmpty: with an error all else is empty.
func isEmpty(p api.Pool) bool { return isPool(p, 0, nil) }

func isNoBatch(b api.Batch) bool { return isBatch(b, 0, 0, nil) }

// P7.1

func TestCheck(t *testing.T) {
	for _, next := range goodNexts {
		for _, l := range [][]string{
			nil,
			{},
			goodTxs(),
			txs(0, 1),
			txs(0, api.MaxPool-1),
			txs(0, api.MaxPool),
		} {
			if e := Check(api.Pool{Next: next, Txs: l}); e != api.OK {
				t.Errorf("next %d, %q: %d", next, l, e)
			}
		}
		for _, tx := range goodTxs() {
			if e := Check(api.Pool{Next: next, Txs: []string{tx}}); e != api.OK {
				t.Errorf("next %d, %q: %d", next, tx, e)
			}
		}
	}
	for i, p := range wrongPools() {
		if e := Check(p); e != api.ErrState {
			t.Errorf("wrong pool %d: %d", i, e)
		}
	}
}

// Wherever a transaction stands, it may not stand once more.
func TestCheckTwiceAnywhere(t *testing.T) {
	for i := range api.MaxPool {
		for j := range api.MaxPool {
			p := poolOf(1, api.MaxPool)
			p.Txs[j] = p.Txs[i]
			want := api.ErrState
			if i == j {
				want = api.OK
			}
			if e := Check(p); e != want {
				t.Errorf("%d at %d: %d", i, j, e)
			}
		}
	}
}

// Texts are compared byte by byte: these are all different.
func TestCheckNearlyTheSame(t *testing.T) {
	long := strings.Repeat("x", api.MaxTx-1)
	for _, l := range [][]string{
		{"a", "A"},
		{"a", "a ", " a"},
		{"a", "a\x00"},
		{"a", "aa", "aaa"},
		{long, long + "x"},
		{long + "x", long + "y", "y" + long},
		{"\u00e9", "e\u0301"},
		{"\xff", "\xfe", "\ufffd"},
	} {
		if e := Check(api.Pool{Next: 1, Txs: l}); e != api.OK {
			t.Errorf("%q: %d", l, e)
		}
	}
}

// Very many transactions are refused without holding each against each.
func TestCheckVeryMany(t *testing.T) {
	if e := Check(poolOf(1, 1<<20)); e != api.ErrState {
		t.Errorf("%d", e)
	}
}

// A pool that may not be is told ahead of all else.
func TestStateFirst(t *testing.T) {
	for i, p := range wrongPools() {
		for _, tx := range append([]string{"a", "t0", "new"}, wrongTxs()...) {
			if got, e := Add(p, tx); !isEmpty(got) || e != api.ErrState {
				t.Errorf("pool %d, add %.30q: %v %d", i, tx, got, e)
			}
		}
		for _, author := range append([]int{0, 1, 2, 3}, noNodes...) {
			if got, b, e := Seal(p, author); !isEmpty(got) || !isNoBatch(b) || e != api.ErrState {
				t.Errorf("pool %d, seal by %d: %v %v %d", i, author, got, b, e)
			}
		}
	}
}

// P7.2

func TestAdd(t *testing.T) {
	for _, next := range goodNexts {
		p := api.Pool{Next: next}
		for i, tx := range goodTxs() {
			got, e := Add(p, tx)
			if e != api.OK || !isPool(got, next, goodTxs()[:i+1]) {
				t.Fatalf("next %d, %q: %v %d", next, tx, got, e)
			}
			p = got
		}
	}
}

func TestAddToEmpty(t *testing.T) {
	for _, l := range [][]string{nil, {}} {
		for _, tx := range goodTxs() {
			if got, e := Add(api.Pool{Next: 7, Txs: l}, tx); e != api.OK || !isPool(got, 7, []string{tx}) {
				t.Errorf("%q: %v %d", tx, got, e)
			}
		}
	}
}

func TestAddSize(t *testing.T) {
	// To the last pool, with no room, another error would be told later.
	for _, p := range []api.Pool{{Next: 1}, poolOf(1, 3), poolOf(api.MaxRound+1, api.MaxPool)} {
		for _, tx := range wrongTxs() {
			if got, e := Add(p, tx); !isEmpty(got) || e != api.ErrSize {
				t.Errorf("%.30q to %d: %v %d", tx, len(p.Txs), got, e)
			}
		}
	}
}

// Wherever it stands, in a full pool too: that it is there is told first.
func TestAddTwice(t *testing.T) {
	for _, n := range []int{1, 2, 5, api.MaxPool - 1, api.MaxPool} {
		p := poolOf(3, n)
		for _, tx := range p.Txs {
			if got, e := Add(p, tx); !isEmpty(got) || e != api.ErrTwice {
				t.Errorf("%q of %d: %v %d", tx, n, got, e)
			}
		}
	}
	p := api.Pool{Next: 1, Txs: goodTxs()}
	for _, tx := range goodTxs() {
		if got, e := Add(p, tx); !isEmpty(got) || e != api.ErrTwice {
			t.Errorf("%q: %v %d", tx, got, e)
		}
	}
}

func TestAddFull(t *testing.T) {
	for _, next := range goodNexts {
		got, e := Add(poolOf(next, api.MaxPool-1), "last")
		if e != api.OK || !isPool(got, next, append(txs(0, api.MaxPool-1), "last")) {
			t.Errorf("next %d, the last one: %v %d", next, got, e)
		}
		for _, tx := range goodTxs() {
			if got, e := Add(poolOf(next, api.MaxPool), tx); !isEmpty(got) || e != api.ErrFull {
				t.Errorf("next %d, one more, %q: %v %d", next, tx, got, e)
			}
		}
	}
}

// P7.3

func TestSeal(t *testing.T) {
	for _, next := range []int{1, 2, 700, api.MaxRound - 1, api.MaxRound} {
		for author := range api.Nodes {
			for n := 1; n <= api.MaxPool; n++ {
				first := min(n, api.MaxTxs)
				p, b, e := Seal(poolOf(next, n), author)
				if e != api.OK || !isPool(p, next+1, txs(first, n-first)) || !isBatch(b, author, next, txs(0, first)) {
					t.Errorf("next %d, author %d, %d transactions: %v %v %d", next, author, n, p, b, e)
				}
			}
		}
	}
}

// The edges, written out: MaxTxs, one fewer, one more.
func TestSealEdges(t *testing.T) {
	for _, c := range []struct{ in, sealed, left string }{
		{"a", "a", ""},
		{"c b a", "c b a", ""},
		{"d c b a", "d c b a", ""},
		{"e d c b a", "e d c b", "a"},
		{"b a d c f e h g i", "b a d c", "f e h g i"},
	} {
		p, b, e := Seal(api.Pool{Next: 9, Txs: strings.Fields(c.in)}, 2)
		if e != api.OK || !isPool(p, 10, strings.Fields(c.left)) || !isBatch(b, 2, 9, strings.Fields(c.sealed)) {
			t.Errorf("%s: %v %v %d", c.in, p, b, e)
		}
	}
}

// An author that is no node is told ahead of there being no transactions, and
// no number.
func TestSealAuthor(t *testing.T) {
	for _, p := range []api.Pool{{Next: 1}, {Next: api.MaxRound + 1}, poolOf(1, 5), poolOf(api.MaxRound+1, 5), poolOf(api.MaxRound, api.MaxPool)} {
		for _, author := range noNodes {
			if got, b, e := Seal(p, author); !isEmpty(got) || !isNoBatch(b) || e != api.ErrRange {
				t.Errorf("next %d, author %d: %v %v %d", p.Next, author, got, b, e)
			}
		}
	}
}

func TestSealNone(t *testing.T) {
	for _, next := range goodNexts { // with the last one ErrFull would be told later
		for _, l := range [][]string{nil, {}} {
			for author := range api.Nodes {
				if got, b, e := Seal(api.Pool{Next: next, Txs: l}, author); !isEmpty(got) || !isNoBatch(b) || e != api.ErrNone {
					t.Errorf("next %d, author %d: %v %v %d", next, author, got, b, e)
				}
			}
		}
	}
}

func TestSealFull(t *testing.T) {
	for _, n := range []int{1, api.MaxTxs - 1, api.MaxTxs, api.MaxTxs + 1, api.MaxPool} {
		for author := range api.Nodes {
			if got, b, e := Seal(poolOf(api.MaxRound+1, n), author); !isEmpty(got) || !isNoBatch(b) || e != api.ErrFull {
				t.Errorf("%d transactions, author %d: %v %v %d", n, author, got, b, e)
			}
		}
	}
	// The last number is used once: the pool behind it may be, and seals no more.
	p, b, e := Seal(poolOf(api.MaxRound, api.MaxTxs+1), 1)
	if e != api.OK || !isPool(p, api.MaxRound+1, txs(api.MaxTxs, 1)) || b.Number != api.MaxRound || Check(p) != api.OK {
		t.Fatalf("the last number: %v %v %d", p, b, e)
	}
	if got, b, e := Seal(p, 1); !isEmpty(got) || !isNoBatch(b) || e != api.ErrFull {
		t.Errorf("behind the last number: %v %v %d", got, b, e)
	}
}

// Again and again until nothing waits: all go, in their order, with numbers
// that rise one by one.
func TestSealUntilNothingWaits(t *testing.T) {
	for n := range api.MaxPool + 1 {
		var went []string
		p, number := poolOf(5, n), 5
		for len(p.Txs) > 0 {
			got, b, e := Seal(p, 3)
			if e != api.OK || b.Author != 3 || b.Number != number {
				t.Fatalf("%d transactions, batch %d: %v %d", n, number, b, e)
			}
			if want := min(api.MaxTxs, len(p.Txs)); len(b.Txs) != want {
				t.Fatalf("%d transactions, batch %d: %v", n, number, b)
			}
			went, p, number = append(went, b.Txs...), got, number+1
		}
		if !same(went, txs(0, n)) || p.Next != 5+(n+api.MaxTxs-1)/api.MaxTxs {
			t.Errorf("%d transactions: %v, next %d", n, went, p.Next)
		}
		if got, b, e := Seal(p, 3); !isEmpty(got) || !isNoBatch(b) || e != api.ErrNone {
			t.Errorf("%d transactions, once more: %v %v %d", n, got, b, e)
		}
	}
}

// What was sealed is not there any more: it may be added anew.
func TestAddWhatWasSealed(t *testing.T) {
	p, _, e := Seal(poolOf(1, 5), 0)
	if e != api.OK {
		t.Fatal(e)
	}
	got, e := Add(p, "t0")
	if e != api.OK || !isPool(got, 2, []string{"t4", "t0"}) {
		t.Errorf("%v %d", got, e)
	}
	if got, e := Add(p, "t4"); !isEmpty(got) || e != api.ErrTwice {
		t.Errorf("one that waits: %v %d", got, e)
	}
}

// What comes of it: what comes first goes first. A drawn walk, held against
// what came.
func TestDrawn(t *testing.T) {
	r := rand.New(rand.NewSource(7))
	p := api.Pool{Next: 1}
	var waits []string
	number, fulls, twices, nones := 1, 0, 0, 0
	for i := range 6000 {
		if r.Intn(8+i/1500*4) > 0 {
			tx := strconv.Itoa(r.Intn(90))
			got, e := Add(p, tx)
			switch {
			case slices.Contains(waits, tx):
				twices++
				if !isEmpty(got) || e != api.ErrTwice {
					t.Fatalf("step %d, add %s: %v %d", i, tx, got, e)
				}
			case len(waits) == api.MaxPool:
				fulls++
				if !isEmpty(got) || e != api.ErrFull {
					t.Fatalf("step %d, add %s: %v %d", i, tx, got, e)
				}
			default:
				waits = append(waits, tx)
				if e != api.OK || !isPool(got, number, waits) {
					t.Fatalf("step %d, add %s: %v %d", i, tx, got, e)
				}
				p = got
			}
			continue
		}
		for range 1 + r.Intn(12) {
			author := r.Intn(api.Nodes)
			got, b, e := Seal(p, author)
			if len(waits) == 0 {
				nones++
				if !isEmpty(got) || !isNoBatch(b) || e != api.ErrNone {
					t.Fatalf("step %d, seal: %v %v %d", i, got, b, e)
				}
				continue
			}
			n := min(len(waits), 4)
			if e != api.OK || !isBatch(b, author, number, waits[:n]) || !isPool(got, number+1, waits[n:]) {
				t.Fatalf("step %d, seal: %v %v %d", i, got, b, e)
			}
			p, waits, number = got, waits[n:], number+1
		}
	}
	if fulls == 0 || twices == 0 || nones == 0 {
		t.Errorf("the walk did not meet all: %d %d %d", fulls, twices, nones)
	}
}

// What holds everywhere: arguments stay, answers are new.

// roomyPool: its spare room would show a write.
func roomyPool(n int) api.Pool {
	l := append(txs(0, n), "spare", "spare", "spare")
	return api.Pool{Next: 4, Txs: l[:n]}
}

func whole(p api.Pool) []string { return slices.Clone(p.Txs[:cap(p.Txs)]) }

func TestArgumentsStay(t *testing.T) {
	for _, n := range []int{0, 1, api.MaxTxs - 1, api.MaxTxs, api.MaxTxs + 1, api.MaxPool - 1, api.MaxPool, api.MaxPool + 1} {
		p := roomyPool(n)
		before := whole(p)
		Check(p)
		for _, tx := range []string{"new", "t0", "", "another"} {
			Add(p, tx)
		}
		for author := -1; author <= api.Nodes; author++ {
			Seal(p, author)
		}
		if !reflect.DeepEqual(whole(p), before) {
			t.Errorf("%d transactions: %v", n, whole(p))
		}
	}
}

// spoil all that a list reaches, spare room too.
func spoil(l []string) {
	l = l[:cap(l)]
	for i := range l {
		l[i] = "spoiled"
	}
}

func TestAddIsNew(t *testing.T) {
	for _, n := range []int{0, 1, 5, api.MaxPool - 1} {
		p := roomyPool(n)
		before := whole(p)
		a, _ := Add(p, "new")
		b, _ := Add(p, "other")
		spoil(a.Txs)
		if !reflect.DeepEqual(whole(p), before) {
			t.Errorf("%d transactions, the pool: %v", n, whole(p))
		}
		if !isPool(b, 4, append(txs(0, n), "other")) {
			t.Errorf("%d transactions, the other answer: %v", n, b)
		}
		spoil(p.Txs)
		if !isPool(b, 4, append(txs(0, n), "other")) {
			t.Errorf("%d transactions, behind the pool: %v", n, b)
		}
	}
}

func TestSealIsNew(t *testing.T) {
	for _, n := range []int{1, api.MaxTxs, api.MaxTxs + 1, 2 * api.MaxTxs, api.MaxPool} {
		first := min(n, api.MaxTxs)
		p := roomyPool(n)
		before := whole(p)
		left, b, _ := Seal(p, 1)
		otherLeft, otherB, _ := Seal(p, 1)
		spoil(left.Txs)
		if !isBatch(b, 1, 4, txs(0, first)) {
			t.Errorf("%d transactions, the batch: %v", n, b)
		}
		spoil(b.Txs)
		if !reflect.DeepEqual(whole(p), before) {
			t.Errorf("%d transactions, the pool: %v", n, whole(p))
		}
		spoil(p.Txs)
		if !isPool(otherLeft, 5, txs(first, n-first)) || !isBatch(otherB, 1, 4, txs(0, first)) {
			t.Errorf("%d transactions, the other answer: %v %v", n, otherLeft, otherB)
		}
	}
}

// Spare room of the batch is not the pool's: what is put behind one stays out
// of the other.
func TestSealedShareNothing(t *testing.T) {
	left, b, _ := Seal(poolOf(1, 9), 1)
	spoil(b.Txs)
	if !isPool(left, 2, txs(4, 5)) {
		t.Errorf("%v", left)
	}
	left, b, _ = Seal(poolOf(1, 9), 1)
	_ = append(b.Txs, "more")
	if !isPool(left, 2, txs(4, 5)) {
		t.Errorf("%v", left)
	}
}
