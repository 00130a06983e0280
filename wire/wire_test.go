package wire

import (
	"bytes"
	"encoding/hex"
	"math"
	"strings"
	"testing"

	"sheaves/api"
	"sheaves/blake"
)

// sample: a digest that no other number has (of 0 to 255).
func sample(n int) []byte {
	d := make([]byte, digestSize)
	for i := range d {
		d[i] = byte(n + i)
	}
	return d
}

func samples(numbers ...int) [][]byte {
	var l [][]byte
	for _, n := range numbers {
		l = append(l, sample(n))
	}
	return l
}

// text of so many bytes.
func text(n int) string { return strings.Repeat("x", n) }

func texts(lengths ...int) []string {
	var l []string
	for _, n := range lengths {
		l = append(l, text(n))
	}
	return l
}

var (
	noNodes  = []int{-1, api.Nodes, 255, 256, math.MinInt, math.MaxInt}
	noRounds = []int{0, -1, api.MaxRound + 1, 1 << 24, 1<<24 + 1, math.MinInt, math.MaxInt}
)

func goodBatch() api.Batch { return api.Batch{Author: 2, Number: 258, Txs: []string{"ab", "c"}} }

func goodHeader() api.Header {
	return api.Header{Author: 2, Round: 2, Batches: samples(9), Parents: samples(4, 5, 6)}
}

func goodCert() api.Cert { return api.Cert{Header: goodHeader(), Voters: []int{0, 1, 3}} }

func goodSlot() api.Slot { return api.Slot{Author: 1, Round: 7, Digest: sample(3)} }

// P2.1

func TestNodes(t *testing.T) {
	for n := range api.Nodes {
		if !isNode(n) {
			t.Errorf("%d is a node", n)
		}
	}
	for _, n := range noNodes {
		if isNode(n) {
			t.Errorf("%d is no node", n)
		}
	}
}

func TestRounds(t *testing.T) {
	for _, n := range []int{1, 2, 255, 256, 65536, api.MaxRound - 1, api.MaxRound} {
		if !isRound(n) {
			t.Errorf("%d is a round", n)
		}
	}
	for _, n := range noRounds {
		if isRound(n) {
			t.Errorf("%d is no round", n)
		}
	}
}

func TestDigests(t *testing.T) {
	short, long := sample(1)[:31], append(sample(1), 0)
	for i, c := range []struct {
		list [][]byte
		want api.Errno
	}{
		{nil, api.OK},
		{[][]byte{}, api.OK},
		{samples(1), api.OK},
		{samples(1, 2, 3, 4), api.OK},
		{[][]byte{nil}, api.ErrForm},
		{[][]byte{{}}, api.ErrForm},
		{[][]byte{short}, api.ErrForm},
		{[][]byte{long}, api.ErrForm},
		{[][]byte{sample(1), long}, api.ErrForm},
		{[][]byte{make([]byte, 64)}, api.ErrForm},
		{samples(1, 1), api.ErrTwice},
		{samples(1, 2, 1), api.ErrTwice},
		{samples(1, 2, 3, 3), api.ErrTwice},
		// One by one: whichever is wrong first.
		{[][]byte{sample(1), sample(1), short}, api.ErrTwice},
		{[][]byte{sample(1), short, sample(1)}, api.ErrForm},
		{[][]byte{short, short}, api.ErrForm},
	} {
		if got := checkDigests(c.list); got != c.want {
			t.Errorf("case %d: %d, want %d", i, got, c.want)
		}
	}
}

func TestDigestsThatDifferInOneByte(t *testing.T) {
	for i := range digestSize {
		d := sample(1)
		d[i]++
		if got := checkDigests([][]byte{sample(1), d}); got != api.OK {
			t.Errorf("byte %d: %d", i, got)
		}
	}
}

// P2.2

func TestCheckBatch(t *testing.T) {
	for i, c := range []struct {
		batch api.Batch
		want  api.Errno
	}{
		{goodBatch(), api.OK},
		{api.Batch{Author: 0, Number: 1, Txs: texts(1)}, api.OK},
		{api.Batch{Author: 3, Number: api.MaxRound, Txs: texts(20, 20, 20, 20)}, api.OK},
		{api.Batch{Author: 1, Number: 1, Txs: []string{"a", "a"}}, api.OK},
		{api.Batch{Author: 1, Number: 1, Txs: []string{"\x00", "\xff"}}, api.OK},
		{api.Batch{}, api.ErrRange},
		{api.Batch{Author: 0, Number: 1}, api.ErrSize},
		{api.Batch{Author: 0, Number: 1, Txs: []string{}}, api.ErrSize},
		{api.Batch{Author: 0, Number: 1, Txs: texts(1, 1, 1, 1, 1)}, api.ErrSize},
		{api.Batch{Author: 0, Number: 1, Txs: texts(0)}, api.ErrSize},
		{api.Batch{Author: 0, Number: 1, Txs: texts(21)}, api.ErrSize},
		{api.Batch{Author: 0, Number: 1, Txs: texts(1, 2, 3, 0)}, api.ErrSize},
		{api.Batch{Author: 0, Number: 1, Txs: texts(1, 2, 3, 21)}, api.ErrSize},
		{api.Batch{Author: 0, Number: 1, Txs: texts(257)}, api.ErrSize},
		// The length is told in bytes.
		{api.Batch{Author: 0, Number: 1, Txs: []string{strings.Repeat("ä", 10)}}, api.OK},
		{api.Batch{Author: 0, Number: 1, Txs: []string{strings.Repeat("ä", 11)}}, api.ErrSize},
	} {
		if got := CheckBatch(c.batch); got != c.want {
			t.Errorf("case %d: %d, want %d", i, got, c.want)
		}
	}
}

func TestCheckBatchRange(t *testing.T) {
	for _, n := range noNodes {
		b := goodBatch()
		b.Author = n
		if got := CheckBatch(b); got != api.ErrRange {
			t.Errorf("author %d: %d", n, got)
		}
		b.Txs = texts(21)
		if got := CheckBatch(b); got != api.ErrRange {
			t.Errorf("author %d, ahead of ErrSize: %d", n, got)
		}
	}
	for _, n := range noRounds {
		b := goodBatch()
		b.Number = n
		if got := CheckBatch(b); got != api.ErrRange {
			t.Errorf("number %d: %d", n, got)
		}
		b.Txs = nil
		if got := CheckBatch(b); got != api.ErrRange {
			t.Errorf("number %d, ahead of ErrSize: %d", n, got)
		}
	}
}

// P2.3

func TestCheckHeader(t *testing.T) {
	short := [][]byte{sample(1), sample(2)[:31]}
	for i, c := range []struct {
		header api.Header
		want   api.Errno
	}{
		{goodHeader(), api.OK},
		{api.Header{Author: 0, Round: 1}, api.OK},
		{api.Header{Author: 0, Round: 1, Batches: [][]byte{}, Parents: [][]byte{}}, api.OK},
		{api.Header{Author: 3, Round: 1, Batches: samples(1, 2, 3)}, api.OK},
		{api.Header{Author: 3, Round: 2, Parents: samples(1, 2, 3)}, api.OK},
		{api.Header{Author: 3, Round: api.MaxRound, Batches: samples(1, 2, 3), Parents: samples(4, 5, 6, 7)}, api.OK},
		// A list by itself: a batch may have a parent's digest.
		{api.Header{Author: 0, Round: 2, Batches: samples(1, 2), Parents: samples(1, 2, 3)}, api.OK},
		{api.Header{}, api.ErrRange},
		{api.Header{Round: 1, Batches: samples(1, 2, 3, 4)}, api.ErrSize},
		{api.Header{Round: 2, Parents: samples(1, 2, 3, 4, 5)}, api.ErrSize},
		{api.Header{Round: 1, Parents: samples(1, 2, 3, 4, 5)}, api.ErrSize},
		{api.Header{Round: 1, Batches: short}, api.ErrForm},
		{api.Header{Round: 1, Batches: samples(1, 1)}, api.ErrTwice},
		{api.Header{Round: 2, Batches: samples(1), Parents: append(samples(3, 4), nil)}, api.ErrForm},
		{api.Header{Round: 2, Parents: samples(1, 2, 1)}, api.ErrTwice},
		{api.Header{Round: 1, Parents: samples(1)}, api.ErrFew},
		{api.Header{Round: 1, Parents: samples(1, 2, 3)}, api.ErrFew},
		{api.Header{Round: 1, Parents: samples(1, 2, 3, 4)}, api.ErrFew},
		{api.Header{Round: 2}, api.ErrFew},
		{api.Header{Round: 2, Parents: samples(1, 2)}, api.ErrFew},
		{api.Header{Round: api.MaxRound, Parents: samples(1, 2)}, api.ErrFew},
	} {
		if got := CheckHeader(c.header); got != c.want {
			t.Errorf("case %d: %d, want %d", i, got, c.want)
		}
	}
}

func TestCheckHeaderRange(t *testing.T) {
	for _, n := range noNodes {
		h := goodHeader()
		h.Author = n
		if got := CheckHeader(h); got != api.ErrRange {
			t.Errorf("author %d: %d", n, got)
		}
	}
	for _, n := range noRounds {
		h := goodHeader()
		h.Round = n
		if got := CheckHeader(h); got != api.ErrRange {
			t.Errorf("round %d: %d", n, got)
		}
	}
}

// Several are wrong at once: the answer is the one named first.
func TestCheckHeaderOrder(t *testing.T) {
	short := [][]byte{{1}}
	for i, c := range []struct {
		header api.Header
		want   api.Errno
	}{
		{api.Header{Author: 4, Round: 1, Batches: samples(1, 2, 3, 4)}, api.ErrRange},
		{api.Header{Round: 0, Parents: samples(1, 2, 3, 4, 5)}, api.ErrRange},
		{api.Header{Round: 1, Batches: short, Parents: samples(1, 2, 3, 4, 5)}, api.ErrSize},
		{api.Header{Round: 1, Batches: samples(1, 1, 1, 1), Parents: short}, api.ErrSize},
		{api.Header{Round: 2, Batches: short, Parents: samples(1, 1)}, api.ErrForm},
		{api.Header{Round: 2, Batches: samples(1, 1), Parents: short}, api.ErrTwice},
		{api.Header{Round: 1, Parents: short}, api.ErrForm},
		{api.Header{Round: 2, Parents: samples(1, 1)}, api.ErrTwice},
		{api.Header{Round: 2, Batches: short}, api.ErrForm},
	} {
		if got := CheckHeader(c.header); got != c.want {
			t.Errorf("case %d: %d, want %d", i, got, c.want)
		}
	}
}

// P2.4

func TestCheckCert(t *testing.T) {
	for i, c := range []struct {
		voters []int
		want   api.Errno
	}{
		{[]int{0, 1, 2}, api.OK},
		{[]int{0, 1, 3}, api.OK},
		{[]int{0, 2, 3}, api.OK},
		{[]int{1, 2, 3}, api.OK},
		{[]int{0, 1, 2, 3}, api.OK},
		{nil, api.ErrFew},
		{[]int{}, api.ErrFew},
		{[]int{2}, api.ErrFew},
		{[]int{0, 3}, api.ErrFew},
		{[]int{0, 1, 2, 3, 3}, api.ErrSize},
		{[]int{9, 9, 9, 9, 9}, api.ErrSize},
		{[]int{0, 1, 4}, api.ErrRange},
		{[]int{-1, 0, 1}, api.ErrRange},
		{[]int{math.MinInt}, api.ErrRange},
		{[]int{0, 1, math.MaxInt}, api.ErrRange},
		{[]int{0, 0, 1}, api.ErrOrder},
		{[]int{0, 2, 1}, api.ErrOrder},
		{[]int{3, 2, 1, 0}, api.ErrOrder},
		// One by one: whichever is wrong first; then how many there are.
		{[]int{1, 0, 4}, api.ErrOrder},
		{[]int{1, 4, 0}, api.ErrRange},
		{[]int{1, -1, 2}, api.ErrRange},
		{[]int{1, 1}, api.ErrOrder},
		{[]int{0, 4}, api.ErrRange},
	} {
		if got := CheckCert(api.Cert{Header: goodHeader(), Voters: c.voters}); got != c.want {
			t.Errorf("case %d: %d, want %d", i, got, c.want)
		}
	}
}

func TestCheckCertHeaderFirst(t *testing.T) {
	for i, h := range []api.Header{
		{},
		{Round: 1, Batches: samples(1, 2, 3, 4)},
		{Round: 1, Batches: [][]byte{{1}}},
		{Round: 1, Batches: samples(1, 1)},
		{Round: 2},
	} {
		for _, voters := range [][]int{{0, 1, 2}, {0, 1, 2, 3, 3}, {4}, {1, 0}, nil} {
			got, want := CheckCert(api.Cert{Header: h, Voters: voters}), CheckHeader(h)
			if got != want || want == api.OK {
				t.Errorf("header %d, voters %v: %d, want %d", i, voters, got, want)
			}
		}
	}
}

// P2.5

func TestCheckSlot(t *testing.T) {
	for i, c := range []struct {
		slot api.Slot
		want api.Errno
	}{
		{goodSlot(), api.OK},
		{api.Slot{Author: 0, Round: 1, Digest: make([]byte, 32)}, api.OK},
		{api.Slot{Author: 3, Round: api.MaxRound, Digest: sample(1)}, api.OK},
		{api.Slot{}, api.ErrRange},
		{api.Slot{Round: 1}, api.ErrForm},
		{api.Slot{Round: 1, Digest: []byte{}}, api.ErrForm},
		{api.Slot{Round: 1, Digest: make([]byte, 31)}, api.ErrForm},
		{api.Slot{Round: 1, Digest: make([]byte, 33)}, api.ErrForm},
	} {
		if got := CheckSlot(c.slot); got != c.want {
			t.Errorf("case %d: %d, want %d", i, got, c.want)
		}
	}
	for _, n := range noNodes {
		for _, d := range [][]byte{sample(1), nil} {
			if got := CheckSlot(api.Slot{Author: n, Round: 1, Digest: d}); got != api.ErrRange {
				t.Errorf("author %d: %d", n, got)
			}
		}
	}
	for _, n := range noRounds {
		for _, d := range [][]byte{sample(1), nil} {
			if got := CheckSlot(api.Slot{Round: n, Digest: d}); got != api.ErrRange {
				t.Errorf("round %d: %d", n, got)
			}
		}
	}
}

// P2.6, P2.7

func TestBatchDigest(t *testing.T) {
	for i, c := range []struct {
		batch api.Batch
		want  string
	}{
		{api.Batch{Author: 0, Number: 1, Txs: []string{"a"}},
			"2162afafc5a25b8f3d47b34a6b06f075f16b17e18b21c525eeff283b04be77ce"},
		{goodBatch(),
			"5c0738ca06595ff6a26476ee3b34d7484947fa7ca9b63a0e0b7bc12001d38f50"},
		{api.Batch{Author: 3, Number: api.MaxRound, Txs: []string{
			"abcdefghijklmnopqrst", strings.Repeat("\x00", 20), strings.Repeat("\xff", 20), text(20)}},
			"006a3e015fb6e1dbfcb58d21f52200d1bcb6df5c1065b723d4827dbd8fc3203b"},
	} {
		d, e := BatchDigest(c.batch)
		if got := hex.EncodeToString(d); got != c.want || e != api.OK {
			t.Errorf("case %d: %s %d, want %s", i, got, e, c.want)
		}
	}
}

func TestHeaderDigest(t *testing.T) {
	for i, c := range []struct {
		header api.Header
		want   string
	}{
		{api.Header{Author: 0, Round: 1},
			"567d650fab0a6e09967325a3106113fa3bc2847bf085615a3af8709dc4c475ee"},
		{api.Header{Author: 1, Round: 1, Batches: samples(1, 2, 3)},
			"e65ae9665b073c2615bf0b8bc98c88d315f1d23126390ca4ea7c770ade7d4402"},
		{goodHeader(),
			"6d783094574b3f553498189432e709e5aa0194c9ed22d0c00afdec47a962e83a"},
		{api.Header{Author: 3, Round: api.MaxRound, Batches: samples(1, 2, 3), Parents: samples(4, 5, 6, 7)},
			"217909953a5ec76f39eff60ce185aeab98dca88dbb29b7421fb96f471272b7e0"},
	} {
		d, e := HeaderDigest(c.header)
		if got := hex.EncodeToString(d); got != c.want || e != api.OK {
			t.Errorf("case %d: %s %d, want %s", i, got, e, c.want)
		}
	}
}

func TestDigestIsOfOnePart(t *testing.T) {
	b, _ := BatchDigest(goodBatch())
	want, _ := blake.Tagged(1, []byte("\x02\x00\x01\x02\x02\x02ab\x01c"))
	if !bytes.Equal(b, want) {
		t.Errorf("batch: %x, want %x", b, want)
	}
	h, _ := HeaderDigest(api.Header{Author: 3, Round: 1, Batches: samples(7)})
	want, _ = blake.Tagged(2, append(append([]byte{3, 0, 0, 1, 1}, sample(7)...), 0))
	if !bytes.Equal(h, want) {
		t.Errorf("header: %x, want %x", h, want)
	}
}

func TestDigestsRefused(t *testing.T) {
	for i, b := range []api.Batch{
		{}, {Author: 4, Number: 1, Txs: texts(1)}, {Number: 1}, {Number: 1, Txs: texts(21)},
	} {
		d, e := BatchDigest(b)
		if len(d) != 0 || e == api.OK || e != CheckBatch(b) {
			t.Errorf("batch %d: %x %d", i, d, e)
		}
	}
	for i, h := range []api.Header{
		{}, {Author: -1, Round: 1}, {Round: 1, Batches: samples(1, 2, 3, 4)},
		{Round: 1, Batches: [][]byte{nil}}, {Round: 1, Batches: samples(1, 1)}, {Round: 2},
	} {
		d, e := HeaderDigest(h)
		if len(d) != 0 || e == api.OK || e != CheckHeader(h) {
			t.Errorf("header %d: %x %d", i, d, e)
		}
	}
}

// What comes of it: what differs has other bytes, and so another digest.
func TestDigestsTellApart(t *testing.T) {
	seen := map[string]int{}
	batches := []api.Batch{
		{Author: 0, Number: 1, Txs: []string{"ab"}},
		{Author: 1, Number: 1, Txs: []string{"ab"}},
		{Author: 0, Number: 2, Txs: []string{"ab"}},
		{Author: 0, Number: 256, Txs: []string{"ab"}},
		{Author: 0, Number: 65536, Txs: []string{"ab"}},
		{Author: 0, Number: 1, Txs: []string{"a", "b"}},
		{Author: 0, Number: 1, Txs: []string{"b", "a"}},
		{Author: 0, Number: 1, Txs: []string{"a\x01b"}},
	}
	for i, b := range batches {
		d, _ := BatchDigest(b)
		if j, ok := seen[string(d)]; ok {
			t.Errorf("batches %d and %d have one digest", j, i)
		}
		seen[string(d)] = i
	}
	headers := []api.Header{
		{Author: 0, Round: 2, Batches: samples(1), Parents: samples(2, 3, 4)},
		{Author: 0, Round: 2, Parents: samples(1, 2, 3, 4)},
		{Author: 0, Round: 2, Parents: samples(2, 3, 4)},
		{Author: 0, Round: 2, Parents: samples(4, 3, 2)},
		{Author: 1, Round: 2, Parents: samples(2, 3, 4)},
		{Author: 0, Round: 3, Parents: samples(2, 3, 4)},
		{Author: 0, Round: 1, Batches: samples(1, 2)},
		{Author: 0, Round: 1, Batches: samples(2, 1)},
	}
	for i, h := range headers {
		d, _ := HeaderDigest(h)
		if j, ok := seen[string(d)]; ok {
			t.Errorf("header %d has the digest of %d", i, j)
		}
		seen[string(d)] = len(batches) + i
	}
}
