package tape

import (
	"bytes"
	"encoding/hex"
	"math"
	"math/rand"
	"reflect"
	"strings"
	"testing"

	"sheaves/api"
	"sheaves/wire"
)

// digest: 32 bytes that hang on a number.
func digest(n int) []byte {
	d := bytes.Repeat([]byte{byte(n)}, 32)
	d[31] = 7
	return d
}

func digests(numbers ...int) [][]byte {
	var l [][]byte
	for _, n := range numbers {
		l = append(l, digest(n))
	}
	return l
}

func bundle(txs ...string) api.Message {
	return api.Message{Kind: api.Bundle, Batch: api.Batch{Author: 2, Number: 258, Txs: txs}}
}

func fullHeader() api.Header {
	return api.Header{Author: 3, Round: api.MaxRound, Batches: digests(1, 2, 3), Parents: digests(4, 5, 6, 7)}
}

// records: of each kind that may be one the smallest and the greatest.
func records() []api.Message {
	x := strings.Repeat("x", api.MaxTx)
	return []api.Message{
		{Kind: api.Bundle, Batch: api.Batch{Number: 1, Txs: []string{"a"}}},
		{Kind: api.Bundle, Batch: api.Batch{Author: 3, Number: api.MaxRound, Txs: []string{x, x, x, x}}},
		{Kind: api.Offer, Header: api.Header{Round: 1}},
		{Kind: api.Offer, Header: fullHeader()},
		{Kind: api.Vote, Slot: api.Slot{Round: 1, Digest: make([]byte, 32)}},
		{Kind: api.Vote, Slot: api.Slot{Author: 3, Round: api.MaxRound, Digest: digest(255)}},
		{Kind: api.Proof, Cert: api.Cert{Header: api.Header{Round: 1}, Voters: []int{0, 1, 2}}},
		{Kind: api.Proof, Cert: api.Cert{Header: fullHeader(), Voters: []int{0, 1, 2, 3}}},
	}
}

// noRecords: messages that may be, but no records.
func noRecords() []api.Message {
	l := []api.Message{
		{Kind: api.Want, Round: 1},
		{Kind: api.Want, Round: api.MaxRound},
		{From: 1, To: 2, Kind: api.Want, Round: 1},
	}
	for _, m := range records() {
		for _, n := range [][2]int{{1, 0}, {0, 1}, {3, 0}, {0, 3}, {2, 1}, {3, 3}} {
			m.From, m.To = n[0], n[1]
			l = append(l, m)
		}
	}
	return l
}

// A wrong message, and how wire's Check refuses it.
type wrong struct {
	message api.Message
	want    api.Errno
}

// wrongs: messages that may not be, some of which are no records either.
func wrongs() []wrong {
	l := []wrong{
		{api.Message{}, api.ErrKind},
		{api.Message{From: 1, To: 1}, api.ErrKind},
		{api.Message{Kind: 6}, api.ErrKind},
		{api.Message{Kind: -1}, api.ErrKind},
		{api.Message{Kind: math.MaxInt}, api.ErrKind},
		{api.Message{From: 1, Kind: math.MinInt}, api.ErrKind},
		{api.Message{Kind: api.Want}, api.ErrRange},
		{api.Message{From: 1, Kind: api.Want, Round: api.MaxRound + 1}, api.ErrRange},
		{api.Message{Kind: api.Bundle}, api.ErrRange},
		{bundle(), api.ErrSize},
		{bundle(""), api.ErrSize},
		{bundle("a", "b", "c", "d", "e"), api.ErrSize},
		{bundle(strings.Repeat("x", api.MaxTx+1)), api.ErrSize},
		{api.Message{From: 2, Kind: api.Bundle, Batch: api.Batch{Number: 1}}, api.ErrSize},
		{api.Message{Kind: api.Offer, Header: api.Header{Round: 2}}, api.ErrFew},
		{api.Message{To: 1, Kind: api.Offer, Header: api.Header{Round: 1, Batches: digests(1, 1)}}, api.ErrTwice},
		{api.Message{Kind: api.Vote, Slot: api.Slot{Round: 1, Digest: make([]byte, 31)}}, api.ErrForm},
		{api.Message{Kind: api.Vote, Slot: api.Slot{Digest: digest(1)}}, api.ErrRange},
		{api.Message{Kind: api.Proof, Cert: api.Cert{Header: api.Header{Round: 1}, Voters: []int{0, 1}}}, api.ErrFew},
		{api.Message{From: 3, Kind: api.Proof, Cert: api.Cert{Header: api.Header{Round: 1}, Voters: []int{0, 2, 1}}}, api.ErrOrder},
		{api.Message{Kind: api.Vote, Slot: api.Slot{Round: 1, Digest: digest(1)}, Round: 1}, api.ErrForm},
	}
	for _, n := range []int{-1, api.Nodes, 256, 1 << 32, math.MinInt, math.MaxInt} {
		from, to := bundle("a"), bundle("a")
		from.From, to.To = n, n
		l = append(l, wrong{from, api.ErrRange}, wrong{to, api.ErrRange})
	}
	return l
}

// written: how a message stands on a tape, made without the package.
func written(t *testing.T, m api.Message) []byte {
	t.Helper()
	b, e := wire.Encode(m)
	if e != api.OK {
		t.Fatalf("Encode of %v: %d", m, e)
	}
	return framed(b)
}

// framed: bytes behind their length.
func framed(b []byte) []byte {
	return append([]byte{byte(len(b) / 256), byte(len(b) % 256)}, b...)
}

func joined(t *testing.T, l ...api.Message) []byte {
	t.Helper()
	var b []byte
	for _, m := range l {
		b = append(b, written(t, m)...)
	}
	return b
}

// filled: a tape of so many bytes, of no record.
func filled(size, synced int) api.Tape {
	return api.Tape{Data: bytes.Repeat([]byte{0xa5}, size), Synced: synced}
}

// wrongTapes: of each kind of tapes that may not be some.
func wrongTapes() []api.Tape {
	l := []api.Tape{
		filled(api.MaxTape+1, 0),
		filled(api.MaxTape+1, 1),
		filled(api.MaxTape+1, api.MaxTape),
		filled(api.MaxTape+1, api.MaxTape+1),
		filled(2*api.MaxTape, api.MaxTape),
	}
	for _, size := range []int{0, 1, 12, 300, api.MaxTape} {
		for _, synced := range []int{-1, -2, size + 1, size + 2, size + 1<<32, math.MinInt, math.MaxInt} {
			l = append(l, filled(size, synced))
		}
	}
	return l
}

// goodTapes: at the edges.
func goodTapes() []api.Tape {
	l := []api.Tape{{}, {Data: []byte{}}}
	for _, size := range []int{1, 2, 12, 300, api.MaxTape - 1, api.MaxTape} {
		for _, synced := range []int{0, 1, size - 1, size} {
			l = append(l, filled(size, synced))
		}
	}
	return l
}

func same(a, b api.Tape) bool { return bytes.Equal(a.Data, b.Data) && a.Synced == b.Synced }

func empty(t api.Tape) bool { return len(t.Data) == 0 && t.Synced == 0 }

func sameMessages(a, b []api.Message) bool {
	return len(a) == 0 && len(b) == 0 || reflect.DeepEqual(a, b)
}

func mustAppend(t *testing.T, x api.Tape, m api.Message) api.Tape {
	t.Helper()
	y, e := Append(x, m)
	if e != api.OK {
		t.Fatalf("Append of %v: %d", m, e)
	}
	return y
}

func mustSync(t *testing.T, x api.Tape) api.Tape {
	t.Helper()
	y, e := Sync(x)
	if e != api.OK {
		t.Fatalf("Sync: %d", e)
	}
	return y
}

func mustCrash(t *testing.T, x api.Tape, keep int) api.Tape {
	t.Helper()
	y, e := Crash(x, keep)
	if e != api.OK {
		t.Fatalf("Crash, of which %d stay: %d", keep, e)
	}
	return y
}

func mustRecover(t *testing.T, x api.Tape) ([]api.Message, api.Tape) {
	t.Helper()
	l, y, e := Recover(x)
	if e != api.OK {
		t.Fatalf("Recover: %d", e)
	}
	return l, y
}

// P8.1

func TestTapesThatMayBe(t *testing.T) {
	for i, x := range goodTapes() {
		if _, e := Sync(x); e != api.OK {
			t.Errorf("tape %d, synced: %d", i, e)
		}
		if _, e := Crash(x, 0); e != api.OK {
			t.Errorf("tape %d, crashed: %d", i, e)
		}
		if _, _, e := Recover(x); e != api.OK {
			t.Errorf("tape %d, recovered: %d", i, e)
		}
		want := api.OK
		if len(x.Data) > 1000 {
			want = api.ErrFull
		}
		if _, e := Append(x, records()[0]); e != want {
			t.Errorf("tape %d, appended to: %d, want %d", i, e, want)
		}
	}
}

// A tape that may not be is told of ahead of all else that is wrong.
func TestTapesThatMayNotBe(t *testing.T) {
	for i, x := range wrongTapes() {
		for _, m := range []api.Message{records()[0], noRecords()[0], wrongs()[0].message} {
			if y, e := Append(x, m); e != api.ErrState || !empty(y) {
				t.Errorf("tape %d, %v appended: %d bytes, %d", i, m, len(y.Data), e)
			}
		}
		if y, e := Sync(x); e != api.ErrState || !empty(y) {
			t.Errorf("tape %d, synced: %d bytes, %d", i, len(y.Data), e)
		}
		for _, keep := range []int{0, 1, math.MaxInt, -1, math.MinInt} {
			if y, e := Crash(x, keep); e != api.ErrState || !empty(y) {
				t.Errorf("tape %d, crashed with %d: %d bytes, %d", i, keep, len(y.Data), e)
			}
		}
		if l, y, e := Recover(x); e != api.ErrState || !empty(y) || len(l) != 0 {
			t.Errorf("tape %d, recovered: %v, %d bytes, %d", i, l, len(y.Data), e)
		}
	}
}

// P8.2

func TestCheckRecords(t *testing.T) {
	for i, m := range records() {
		if e := Check(m); e != api.OK {
			t.Errorf("record %d: %d", i, e)
		}
	}
}

func TestCheckNoRecords(t *testing.T) {
	for i, m := range noRecords() {
		if e := Check(m); e != api.ErrForm {
			t.Errorf("message %d: %d", i, e)
		}
	}
}

// What wire refuses is told of ahead of what makes no record.
func TestCheckWrongs(t *testing.T) {
	for i, c := range wrongs() {
		if e := Check(c.message); e != c.want || e != wire.Check(c.message) {
			t.Errorf("message %d: %d, want %d", i, e, c.want)
		}
	}
}

// P8.3

func TestAppendBytes(t *testing.T) {
	x := mustAppend(t, api.Tape{}, bundle("ab", "c"))
	x = mustAppend(t, x, api.Message{Kind: api.Vote, Slot: api.Slot{Author: 1, Round: 515, Digest: digest(9)}})
	want := "000d" + "010000" + "02000102" + "02" + "026162" + "0163" +
		"0027" + "030000" + "01000203" + strings.Repeat("09", 31) + "07"
	if got := hex.EncodeToString(x.Data); got != want || x.Synced != 0 {
		t.Errorf("%s %d, want %s 0", got, x.Synced, want)
	}
}

func TestAppendEachKind(t *testing.T) {
	var x api.Tape
	var want []byte
	for i, m := range records() {
		x = mustAppend(t, x, m)
		want = append(want, written(t, m)...)
		if !same(x, api.Tape{Data: want}) {
			t.Fatalf("record %d: %x %d, want %x", i, x.Data, x.Synced, want)
		}
	}
}

func TestAppendSyncsNothing(t *testing.T) {
	m := records()[0]
	for _, size := range []int{0, 1, 2, 300} {
		for _, synced := range []int{0, 1, size / 2, size} {
			if synced > size {
				continue
			}
			x := filled(size, synced)
			want := api.Tape{Data: append(bytes.Clone(x.Data), written(t, m)...), Synced: synced}
			if got := mustAppend(t, x, m); !same(got, want) {
				t.Errorf("%d bytes, %d synced: %x %d", size, synced, got.Data, got.Synced)
			}
		}
	}
}

// A record that is there already is appended once more.
func TestAppendTwice(t *testing.T) {
	m := records()[3]
	x := mustAppend(t, mustAppend(t, api.Tape{}, m), m)
	if !bytes.Equal(x.Data, joined(t, m, m)) {
		t.Errorf("%x", x.Data)
	}
}

func TestAppendRefuses(t *testing.T) {
	l := wrongs()
	for _, m := range noRecords() {
		l = append(l, wrong{m, api.ErrForm})
	}
	for i, c := range l {
		for _, x := range []api.Tape{{}, filled(9, 4), filled(api.MaxTape, 1)} {
			if y, e := Append(x, c.message); e != c.want || !empty(y) {
				t.Errorf("message %d behind %d bytes: %d bytes, %d, want %d", i, len(x.Data), len(y.Data), e, c.want)
			}
		}
	}
}

func TestAppendFull(t *testing.T) {
	for i, m := range records() {
		b := written(t, m)
		for _, synced := range []int{0, 17, api.MaxTape - len(b)} {
			x := filled(api.MaxTape-len(b), synced)
			want := api.Tape{Data: append(bytes.Clone(x.Data), b...), Synced: synced}
			if got := mustAppend(t, x, m); !same(got, want) {
				t.Errorf("record %d fits just: %d bytes, %d synced", i, len(got.Data), got.Synced)
			}
		}
		for _, over := range []int{1, 2, 3, len(b) - 1, len(b)} {
			x := filled(api.MaxTape-len(b)+over, 17)
			if y, e := Append(x, m); e != api.ErrFull || !empty(y) {
				t.Errorf("record %d, %d too long: %d bytes, %d", i, over, len(y.Data), e)
			}
		}
	}
}

// A greater record is refused, a smaller one still has room.
func TestAppendFullForSome(t *testing.T) {
	small, great := records()[0], records()[7]
	x := filled(api.MaxTape-len(written(t, small)), 0)
	if _, e := Append(x, great); e != api.ErrFull {
		t.Errorf("great: %d", e)
	}
	if y := mustAppend(t, x, small); len(y.Data) != api.MaxTape {
		t.Errorf("small: %d bytes", len(y.Data))
	}
}

// P8.4

func TestSync(t *testing.T) {
	for i, x := range goodTapes() {
		want := api.Tape{Data: x.Data, Synced: len(x.Data)}
		if got := mustSync(t, x); !same(got, want) {
			t.Errorf("tape %d: %d bytes, %d synced", i, len(got.Data), got.Synced)
		}
		if got := mustSync(t, mustSync(t, x)); !same(got, want) {
			t.Errorf("tape %d, twice: %d bytes, %d synced", i, len(got.Data), got.Synced)
		}
	}
}

// P8.5

func TestCrash(t *testing.T) {
	data := []byte("abcdefgh")
	for synced := range len(data) + 1 {
		for _, keep := range []int{0, 1, 2, 3, 7, 8, 9, 1 << 32, math.MaxInt - 1, math.MaxInt} {
			left := synced
			for n := 0; n < keep && left < len(data); n++ {
				left++
			}
			got := mustCrash(t, api.Tape{Data: data, Synced: synced}, keep)
			if !same(got, api.Tape{Data: data[:left], Synced: left}) {
				t.Errorf("%d synced, %d stay: %q %d, want %d", synced, keep, got.Data, got.Synced, left)
			}
		}
	}
}

func TestCrashAtEdges(t *testing.T) {
	for i, x := range goodTapes() {
		behind := len(x.Data) - x.Synced
		for _, c := range []struct{ keep, left int }{
			{0, x.Synced},
			{behind, len(x.Data)},
			{behind + 1, len(x.Data)},
			{max(behind-1, 0), x.Synced + max(behind-1, 0)},
			{math.MaxInt, len(x.Data)},
		} {
			got := mustCrash(t, x, c.keep)
			if !same(got, api.Tape{Data: x.Data[:c.left], Synced: c.left}) {
				t.Errorf("tape %d, %d stay: %d bytes, %d synced, want %d", i, c.keep, len(got.Data), got.Synced, c.left)
			}
			if again := mustCrash(t, got, 0); !same(again, got) {
				t.Errorf("tape %d, %d stay, crashed once more: %d bytes", i, c.keep, len(again.Data))
			}
		}
	}
}

func TestCrashBelowNothing(t *testing.T) {
	for i, x := range goodTapes() {
		for _, keep := range []int{-1, -2, -api.MaxTape, -1 << 32, math.MinInt} {
			if y, e := Crash(x, keep); e != api.ErrRange || !empty(y) {
				t.Errorf("tape %d, %d stay: %d bytes, %d", i, keep, len(y.Data), e)
			}
		}
	}
}

// P8.6

func TestRecoverWhole(t *testing.T) {
	l := records()
	data := joined(t, l...)
	for _, synced := range []int{0, 1, len(data) / 2, len(data) - 1, len(data)} {
		x := api.Tape{Data: data, Synced: synced}
		got, y := mustRecover(t, x)
		if !sameMessages(got, l) || !same(y, x) {
			t.Errorf("%d synced: %v, %d bytes, %d synced", synced, got, len(y.Data), y.Synced)
		}
	}
}

func TestRecoverNothing(t *testing.T) {
	for _, x := range []api.Tape{{}, {Data: []byte{}}} {
		if l, y := mustRecover(t, x); len(l) != 0 || !empty(y) {
			t.Errorf("%v %v", l, y)
		}
	}
}

// Torn at every byte, in a length, in a record, and between two.
func TestRecoverTorn(t *testing.T) {
	l := records()
	data := joined(t, l...)
	ends := map[int]int{0: 0} // of so many records
	for i := range l {
		ends[i+1] = ends[i] + len(written(t, l[i]))
	}
	n := 0
	for size := range len(data) + 1 {
		for n < len(l) && ends[n+1] <= size {
			n++
		}
		for _, synced := range []int{0, 1, ends[n] - 1, ends[n], ends[n] + 1, size} {
			if synced < 0 || synced > size {
				continue
			}
			got, y := mustRecover(t, api.Tape{Data: data[:size:size], Synced: synced})
			want := api.Tape{Data: data[:ends[n]], Synced: min(synced, ends[n])}
			if !sameMessages(got, l[:n]) || !same(y, want) {
				t.Fatalf("%d bytes, %d synced: %d records, %d bytes, %d synced", size, synced, len(got), len(y.Data), y.Synced)
			}
		}
	}
}

// scraps: bytes that are no whole record.
func scraps(t *testing.T) [][]byte {
	good := written(t, bundle("ab", "c"))
	long := append(bytes.Clone(good), 0)
	long[1]++
	short := bytes.Clone(good[:len(good)-1])
	short[1]--
	l := [][]byte{
		{0}, {1}, {255},
		{0, 0}, {0, 0, 0, 0}, {0, 0, 1},
		{0, 1, 0}, {0, 1, 1}, {0, 1, 5}, {0, 1, 6}, {0, 1, 255},
		{255, 255}, {1, 0}, {1, 0, 1},
		long, short, good[:len(good)-1], good[1:],
		append([]byte{0}, good...),
		append([]byte{0, 0}, good...),
		framed(good),
		framed(make([]byte, api.MaxData)),
		framed(append(bytes.Clone(good[2:]), make([]byte, api.MaxData)...)),
		framed(append(bytes.Clone(good[2:]), make([]byte, 65000)...)),
		framed([]byte{1, 0, 0, 0, 0, 0, 0, 1, 1, 97}),       // no number
		framed([]byte{1, 0, 0, 4, 0, 0, 1, 1, 1, 97}),       // no node
		framed([]byte{1, 4, 0, 0, 0, 0, 1, 1, 1, 97}),       // from none
		framed([]byte{2, 0, 0, 0, 0, 0, 2, 0, 0}),           // no parents
		framed([]byte{4, 0, 0, 0, 0, 0, 1, 0, 0, 2, 0, 1}),  // few voters
		framed([]byte{1, 0, 0, 0, 0, 0, 1, 1, 1, 97, 0, 1}), // a byte and one more
	}
	swapped := bytes.Clone(good)
	swapped[0], swapped[1] = swapped[1], swapped[0]
	l = append(l, swapped)
	for _, m := range noRecords() {
		l = append(l, written(t, m))
	}
	return l
}

// Behind what is no record nothing is looked for.
func TestRecoverScraps(t *testing.T) {
	one := records()[:1]
	three := []api.Message{records()[7], records()[2], records()[5]}
	for i, scrap := range scraps(t) {
		for _, ahead := range [][]api.Message{nil, one, three} {
			for _, behind := range [][]api.Message{nil, one, records()} {
				whole := joined(t, ahead...)
				data := append(append(bytes.Clone(whole), scrap...), joined(t, behind...)...)
				if skips(scrap, behind) {
					continue
				}
				for _, synced := range []int{0, len(whole), len(data)} {
					l, y := mustRecover(t, api.Tape{Data: data, Synced: synced})
					want := api.Tape{Data: whole, Synced: min(synced, len(whole))}
					if !sameMessages(l, ahead) || !same(y, want) {
						t.Errorf("scrap %d behind %d, ahead of %d, %d synced: %d records, %d bytes, %d synced", i, len(ahead), len(behind), synced, len(l), len(y.Data), y.Synced)
					}
				}
			}
		}
	}
}

// skips: a scrap that is torn may be made whole by what is behind it.
func skips(scrap []byte, behind []api.Message) bool {
	if len(behind) == 0 {
		return false
	}
	return len(scrap) < 2 || len(scrap) < 2+int(scrap[0])<<8+int(scrap[1])
}

// As many bytes as a length can tell, and of a record that is refused alone by Decode.
func TestRecoverGreatLengths(t *testing.T) {
	for _, size := range []int{256, 257, api.MaxData, api.MaxData + 1, 65535} {
		b := make([]byte, size)
		copy(b, written(t, records()[0])[2:])
		data := append(joined(t, records()[4]), framed(b)...)
		l, y := mustRecover(t, api.Tape{Data: append(data, joined(t, records()...)...)})
		if !sameMessages(l, records()[4:5]) || !same(y, api.Tape{Data: joined(t, records()[4])}) {
			t.Errorf("%d bytes: %d records, %d bytes", size, len(l), len(y.Data))
		}
	}
}

func TestRecoverOfRecovered(t *testing.T) {
	for i, scrap := range scraps(t) {
		data := append(joined(t, records()...), scrap...)
		l, y := mustRecover(t, api.Tape{Data: data, Synced: len(data)})
		again, z := mustRecover(t, y)
		if !sameMessages(l, again) || !same(y, z) {
			t.Errorf("scrap %d: %d records of %d, %d bytes of %d", i, len(again), len(l), len(z.Data), len(y.Data))
		}
	}
}

func TestRecoverFullTape(t *testing.T) {
	var x api.Tape
	m := records()[7]
	b := written(t, m)
	n := 0
	for ; len(x.Data)+len(b) <= api.MaxTape; n++ {
		x.Data = append(x.Data, b...)
	}
	if _, e := Append(x, m); e != api.ErrFull {
		t.Errorf("Append to a full tape: %d", e)
	}
	x.Data = append(x.Data, b[:api.MaxTape-len(x.Data)]...)
	x.Synced = api.MaxTape
	l, y := mustRecover(t, x)
	if len(l) != n || !reflect.DeepEqual(l[n-1], m) || len(y.Data) != n*len(b) || y.Synced != n*len(b) {
		t.Errorf("%d records, %d bytes, %d synced; want %d", len(l), len(y.Data), y.Synced, n)
	}
}

func TestAppendBehindCrashAndRecovery(t *testing.T) {
	l := records()
	x := mustSync(t, mustAppend(t, api.Tape{}, l[0]))
	x = mustAppend(t, x, l[3])
	for keep := range len(written(t, l[3])) + 2 {
		_, y := mustRecover(t, mustCrash(t, x, keep))
		want := []api.Message{l[0], l[5], l[6]}
		if keep >= len(written(t, l[3])) {
			want = []api.Message{l[0], l[3], l[5], l[6]}
		}
		y = mustAppend(t, mustAppend(t, y, l[5]), l[6])
		got, _ := mustRecover(t, y)
		if !sameMessages(got, want) || !bytes.Equal(y.Data, joined(t, want...)) {
			t.Errorf("%d stay: %v", keep, got)
		}
	}
}

// Without a recovery a torn record stays, and hides what is appended behind it.
func TestAppendBehindTorn(t *testing.T) {
	l := records()
	x := mustSync(t, mustAppend(t, api.Tape{}, l[0]))
	x = mustCrash(t, mustAppend(t, x, l[3]), 1)
	x = mustAppend(t, x, l[2])
	want := append(append(written(t, l[0]), written(t, l[3])[0]), written(t, l[2])...)
	if !bytes.Equal(x.Data, want) {
		t.Errorf("%x, want %x", x.Data, want)
	}
	if got, _ := mustRecover(t, x); !sameMessages(got, l[:1]) {
		t.Errorf("%v", got)
	}
}

// All together

// A tape as records, of which some are safe, and a scrap behind them.
type model struct {
	records []api.Message
	safe    int
}

// What was synced is recovered behind every crash.
func TestDrawnTapes(t *testing.T) {
	draw := rand.New(rand.NewSource(8))
	for range 300 {
		var x api.Tape
		var m model
		for range 30 {
			switch draw.Intn(4) {
			case 0, 1:
				r := records()[draw.Intn(len(records()))]
				x = mustAppend(t, x, r)
				m.records = append(m.records, r)
			case 2:
				x = mustSync(t, x)
				m.safe = len(m.records)
			case 3:
				x = crashAndRecover(t, draw, x, &m)
			}
			if l, _ := mustRecover(t, x); !sameMessages(l, m.records) {
				t.Fatalf("%d records, want %d", len(l), len(m.records))
			}
			if x.Synced != len(joined(t, m.records[:m.safe]...)) {
				t.Fatalf("%d bytes are synced, %d records are safe", x.Synced, m.safe)
			}
		}
	}
}

func crashAndRecover(t *testing.T, draw *rand.Rand, x api.Tape, m *model) api.Tape {
	t.Helper()
	keep := draw.Intn(len(x.Data) - x.Synced + 3)
	left := m.safe
	for room := keep; left < len(m.records); left++ {
		if room -= len(written(t, m.records[left])); room < 0 {
			break
		}
	}
	l, y := mustRecover(t, mustCrash(t, x, keep))
	if !sameMessages(l, m.records[:left]) {
		t.Fatalf("%d bytes stay: %d records, want %d", keep, len(l), left)
	}
	m.records, m.safe = m.records[:left:left], left
	return y
}

// Any bytes: what Recover leaves is just what its records are written as.
func TestRecoverOfDrawnBytes(t *testing.T) {
	draw := rand.New(rand.NewSource(86))
	for range 3000 {
		var data []byte
		for range draw.Intn(5) {
			data = append(data, written(t, records()[draw.Intn(len(records()))])...)
		}
		for range draw.Intn(3) {
			if len(data) > 0 {
				data[draw.Intn(len(data))] = byte(draw.Intn(256))
			}
		}
		synced := draw.Intn(len(data) + 1)
		l, y := mustRecover(t, api.Tape{Data: data, Synced: synced})
		whole := joined(t, l...)
		if !bytes.HasPrefix(data, whole) || !same(y, api.Tape{Data: whole, Synced: min(synced, len(whole))}) {
			t.Fatalf("%x, %d synced: %x, %d synced", data, synced, y.Data, y.Synced)
		}
		for _, m := range l {
			if e := Check(m); e != api.OK {
				t.Fatalf("%v is no record: %d", m, e)
			}
		}
	}
}

// Lists that are handed in, and lists that are answered

// roomy: a tape within greater memory, and all of that memory.
func roomy(x api.Tape) (api.Tape, []byte) {
	all := bytes.Repeat([]byte{0xee}, len(x.Data)+600)
	n := copy(all[300:], x.Data)
	return api.Tape{Data: all[300 : 300+n], Synced: x.Synced}, all
}

// scribble over a list and its spare room.
func scribble(b []byte) {
	b = b[:cap(b)]
	for i := range b {
		b[i] ^= 0x5a
	}
}

// calls: each that answers a tape, by its name.
func calls() map[string]func(api.Tape) api.Tape {
	return map[string]func(api.Tape) api.Tape{
		"Append": func(x api.Tape) api.Tape {
			y, _ := Append(x, records()[3])
			return y
		},
		"Append of a small one": func(x api.Tape) api.Tape {
			y, _ := Append(x, records()[2])
			return y
		},
		"Sync": func(x api.Tape) api.Tape {
			y, _ := Sync(x)
			return y
		},
		"Crash": func(x api.Tape) api.Tape {
			y, _ := Crash(x, 5)
			return y
		},
		"Crash of nothing": func(x api.Tape) api.Tape {
			y, _ := Crash(x, math.MaxInt)
			return y
		},
		"Recover": func(x api.Tape) api.Tape {
			_, y, _ := Recover(x)
			return y
		},
		"a wrong call": func(x api.Tape) api.Tape {
			y, _ := Append(x, records()[3])
			Append(x, noRecords()[0])
			Crash(x, -1)
			return y
		},
	}
}

func sharingTapes(t *testing.T) []api.Tape {
	data := joined(t, records()...)
	return []api.Tape{
		{},
		{Data: data},
		{Data: data, Synced: 12},
		{Data: data, Synced: len(data)},
		{Data: data[:len(data)-1], Synced: 12},
		{Data: data[:1], Synced: 1},
		{Data: data[:20], Synced: 3},
	}
}

func TestArgumentsStay(t *testing.T) {
	for i, x := range sharingTapes(t) {
		for name, call := range calls() {
			given, all := roomy(x)
			before := bytes.Clone(all)
			y := call(given)
			if !bytes.Equal(all, before) {
				t.Errorf("tape %d, %s: what was handed in is changed", i, name)
			}
			scribble(y.Data)
			if !bytes.Equal(all, before) {
				t.Errorf("tape %d, %s: the answer shares memory with what was handed in", i, name)
			}
			y = call(given)
			want := bytes.Clone(y.Data)
			scribble(all)
			if !bytes.Equal(y.Data, want) {
				t.Errorf("tape %d, %s: the answer is kept in what was handed in", i, name)
			}
		}
	}
}

func TestAnswersAreNew(t *testing.T) {
	for i, x := range sharingTapes(t) {
		for name, call := range calls() {
			a := call(x)
			want := bytes.Clone(a.Data)
			scribble(a.Data)
			if b := call(x); !bytes.Equal(b.Data, want) {
				t.Errorf("tape %d, %s: two answers share memory", i, name)
			}
		}
	}
}

// bytesOf: all lists of bytes in a message.
func bytesOf(m *api.Message) [][]byte {
	l := [][]byte{m.Slot.Digest}
	for _, h := range []api.Header{m.Header, m.Cert.Header} {
		l = append(append(l, h.Batches...), h.Parents...)
	}
	return l
}

func TestAppendLeavesTheMessage(t *testing.T) {
	for i, m := range records() {
		x := mustAppend(t, api.Tape{}, m)
		if !reflect.DeepEqual(m, records()[i]) {
			t.Errorf("record %d is changed", i)
		}
		want := bytes.Clone(x.Data)
		for _, b := range bytesOf(&m) {
			scribble(b)
		}
		if !bytes.Equal(x.Data, want) {
			t.Errorf("record %d is kept", i)
		}
	}
}

func TestRecoveredSharesNothing(t *testing.T) {
	data := joined(t, append(records(), records()...)...)
	given, all := roomy(api.Tape{Data: data})
	before := bytes.Clone(all)
	l, y := mustRecover(t, given)
	for i := range l {
		for _, b := range bytesOf(&l[i]) {
			scribble(b)
		}
		l[i].Cert.Voters = append(l[i].Cert.Voters, 7)
		if i+1 < len(l) && !reflect.DeepEqual(l[i+1], records()[(i+1)%len(records())]) {
			t.Errorf("record %d shares memory with the one behind it", i)
		}
	}
	if !bytes.Equal(all, before) || !bytes.Equal(y.Data, data) {
		t.Error("a record shares memory with a tape")
	}
	l, y = mustRecover(t, given)
	scribble(y.Data)
	scribble(all)
	if !sameMessages(l, append(records(), records()...)) {
		t.Error("a tape shares memory with a record")
	}
}
