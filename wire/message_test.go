package wire

import (
	"bytes"
	"encoding/hex"
	"math"
	"reflect"
	"strings"
	"testing"

	"sheaves/api"
)

// goodMessages: of each kind one, and those at the edges.
func goodMessages() []api.Message {
	last := api.Header{Author: 3, Round: api.MaxRound, Batches: samples(1, 2, 3), Parents: samples(4, 5, 6, 7)}
	return []api.Message{
		{From: 1, To: 2, Kind: api.Bundle, Batch: goodBatch()},
		{From: 0, To: 2, Kind: api.Offer, Header: goodHeader()},
		{From: 3, To: 1, Kind: api.Vote, Slot: goodSlot()},
		{From: 2, To: 0, Kind: api.Proof, Cert: goodCert()},
		{From: 1, To: 3, Kind: api.Want, Round: 66051},
		{Kind: api.Bundle, Batch: api.Batch{Number: 1, Txs: texts(1)}},
		{From: 3, To: 3, Kind: api.Bundle, Batch: api.Batch{Author: 3, Number: api.MaxRound, Txs: texts(20, 20, 20, 20)}},
		{Kind: api.Offer, Header: api.Header{Round: 1}},
		{From: 3, To: 3, Kind: api.Offer, Header: last},
		{Kind: api.Vote, Slot: api.Slot{Round: 1, Digest: make([]byte, 32)}},
		{From: 3, To: 3, Kind: api.Vote, Slot: api.Slot{Author: 3, Round: api.MaxRound, Digest: sample(255)}},
		{Kind: api.Proof, Cert: api.Cert{Header: api.Header{Round: 1}, Voters: []int{0, 1, 2}}},
		{From: 3, To: 3, Kind: api.Proof, Cert: api.Cert{Header: last, Voters: []int{0, 1, 2, 3}}},
		{Kind: api.Want, Round: 1},
		{From: 3, To: 3, Kind: api.Want, Round: api.MaxRound},
	}
}

// encode a message that may be.
func encode(t *testing.T, m api.Message) []byte {
	t.Helper()
	b, e := Encode(m)
	if e != api.OK {
		t.Fatalf("Encode of %v: %d", m, e)
	}
	return b
}

func refuse(t *testing.T, what string, b []byte, want api.Errno) {
	t.Helper()
	m, e := Decode(b)
	if e != want || !reflect.DeepEqual(m, api.Message{}) {
		t.Errorf("%s: %v %d, want %d", what, m, e, want)
	}
}

// P2.8

func TestCheckGood(t *testing.T) {
	for i, m := range goodMessages() {
		if e := Check(m); e != api.OK {
			t.Errorf("message %d: %d", i, e)
		}
	}
}

func TestCheckNodes(t *testing.T) {
	for i, m := range goodMessages() {
		for _, n := range noNodes {
			from, to := m, m
			from.From, to.To = n, n
			if e := Check(from); e != api.ErrRange {
				t.Errorf("message %d from %d: %d", i, n, e)
			}
			if e := Check(to); e != api.ErrRange {
				t.Errorf("message %d to %d: %d", i, n, e)
			}
			from.Kind = 0
			if e := Check(from); e != api.ErrRange {
				t.Errorf("message %d from %d, of no kind: %d", i, n, e)
			}
		}
	}
}

func TestCheckKind(t *testing.T) {
	for _, k := range []int{0, 6, -1, 7, 255, 257, math.MinInt, math.MaxInt} {
		for i, m := range goodMessages() {
			m.Kind = k
			if e := Check(m); e != api.ErrKind {
				t.Errorf("message %d of kind %d: %d", i, k, e)
			}
		}
		if e := Check(api.Message{Kind: k}); e != api.ErrKind {
			t.Errorf("nothing of kind %d: %d", k, e)
		}
	}
}

// What a message carries is told by its kind, and refused as it is by itself.
func TestCheckCarried(t *testing.T) {
	for i, c := range []struct {
		message api.Message
		want    api.Errno
	}{
		{api.Message{Kind: api.Bundle}, api.ErrRange},
		{api.Message{Kind: api.Bundle, Batch: api.Batch{Author: 4, Number: 1, Txs: texts(1)}}, api.ErrRange},
		{api.Message{Kind: api.Bundle, Batch: api.Batch{Number: 1}}, api.ErrSize},
		{api.Message{Kind: api.Bundle, Batch: api.Batch{Number: 1, Txs: texts(21)}}, api.ErrSize},
		{api.Message{Kind: api.Offer}, api.ErrRange},
		{api.Message{Kind: api.Offer, Header: api.Header{Round: 1, Batches: samples(1, 2, 3, 4)}}, api.ErrSize},
		{api.Message{Kind: api.Offer, Header: api.Header{Round: 1, Batches: [][]byte{{1}}}}, api.ErrForm},
		{api.Message{Kind: api.Offer, Header: api.Header{Round: 1, Batches: samples(1, 1)}}, api.ErrTwice},
		{api.Message{Kind: api.Offer, Header: api.Header{Round: 2}}, api.ErrFew},
		{api.Message{Kind: api.Vote}, api.ErrRange},
		{api.Message{Kind: api.Vote, Slot: api.Slot{Round: 1}}, api.ErrForm},
		{api.Message{Kind: api.Proof}, api.ErrRange},
		{api.Message{Kind: api.Proof, Cert: api.Cert{Header: api.Header{Round: 2}}}, api.ErrFew},
		{api.Message{Kind: api.Proof, Cert: api.Cert{Header: goodHeader(), Voters: []int{0, 1, 2, 3, 3}}}, api.ErrSize},
		{api.Message{Kind: api.Proof, Cert: api.Cert{Header: goodHeader(), Voters: []int{0, 1, 4}}}, api.ErrRange},
		{api.Message{Kind: api.Proof, Cert: api.Cert{Header: goodHeader(), Voters: []int{0, 2, 1}}}, api.ErrOrder},
		{api.Message{Kind: api.Proof, Cert: api.Cert{Header: goodHeader(), Voters: []int{0, 1}}}, api.ErrFew},
		{api.Message{Kind: api.Want}, api.ErrRange},
	} {
		if got := Check(c.message); got != c.want {
			t.Errorf("case %d: %d, want %d", i, got, c.want)
		}
		b, e := Encode(c.message)
		if len(b) != 0 || e != c.want {
			t.Errorf("case %d, encoded: %x %d, want %d", i, b, e, c.want)
		}
	}
	for _, n := range noRounds {
		if e := Check(api.Message{Kind: api.Want, Round: n}); e != api.ErrRange {
			t.Errorf("a want of round %d: %d", n, e)
		}
	}
}

// extras: by the kind that carries it, each smallest thing that may be too much.
func extras() map[int][]func(*api.Message) {
	return map[int][]func(*api.Message){
		api.Bundle: {
			func(m *api.Message) { m.Batch.Author = 1 },
			func(m *api.Message) { m.Batch.Number = -1 },
			func(m *api.Message) { m.Batch.Txs = []string{""} },
			func(m *api.Message) { m.Batch = goodBatch() },
		},
		api.Offer: {
			func(m *api.Message) { m.Header.Author = 1 },
			func(m *api.Message) { m.Header.Round = 1 },
			func(m *api.Message) { m.Header.Batches = [][]byte{nil} },
			func(m *api.Message) { m.Header.Parents = [][]byte{nil} },
			func(m *api.Message) { m.Header = goodHeader() },
		},
		api.Vote: {
			func(m *api.Message) { m.Slot.Author = -1 },
			func(m *api.Message) { m.Slot.Round = 1 },
			func(m *api.Message) { m.Slot.Digest = []byte{0} },
			func(m *api.Message) { m.Slot = goodSlot() },
		},
		api.Proof: {
			func(m *api.Message) { m.Cert.Header.Author = 1 },
			func(m *api.Message) { m.Cert.Header.Round = 1 },
			func(m *api.Message) { m.Cert.Header.Batches = [][]byte{nil} },
			func(m *api.Message) { m.Cert.Header.Parents = [][]byte{nil} },
			func(m *api.Message) { m.Cert.Voters = []int{0} },
			func(m *api.Message) { m.Cert = goodCert() },
		},
		api.Want: {
			func(m *api.Message) { m.Round = 1 },
			func(m *api.Message) { m.Round = math.MinInt },
		},
	}
}

func TestCheckMore(t *testing.T) {
	for i, good := range goodMessages() {
		for kind, adds := range extras() {
			if kind == good.Kind {
				continue
			}
			for j, add := range adds {
				m := good
				add(&m)
				if e := Check(m); e != api.ErrForm {
					t.Errorf("message %d with extra %d of kind %d: %d", i, j, kind, e)
				}
				if b, e := Encode(m); len(b) != 0 || e != api.ErrForm {
					t.Errorf("message %d with extra %d of kind %d, encoded: %x %d", i, j, kind, b, e)
				}
			}
		}
	}
}

// What it carries is told of ahead of what it carries beside.
func TestCheckMoreComesLast(t *testing.T) {
	m := api.Message{Kind: api.Want, Slot: goodSlot()}
	if e := Check(m); e != api.ErrRange {
		t.Errorf("a want without a round: %d", e)
	}
	m = api.Message{Kind: api.Offer, Header: api.Header{Round: 2}, Round: 1}
	if e := Check(m); e != api.ErrFew {
		t.Errorf("a header without parents: %d", e)
	}
}

func TestCheckTakesEmptyLists(t *testing.T) {
	for i, m := range goodMessages() {
		empty := api.Message{
			Batch:  api.Batch{Txs: []string{}},
			Header: api.Header{Batches: [][]byte{}, Parents: [][]byte{}},
			Slot:   api.Slot{Digest: []byte{}},
			Cert:   api.Cert{Header: api.Header{Batches: [][]byte{}, Parents: [][]byte{}}, Voters: []int{}},
		}
		empty.From, empty.To, empty.Kind = m.From, m.To, m.Kind
		switch m.Kind {
		case api.Bundle:
			empty.Batch = m.Batch
		case api.Offer:
			empty.Header = m.Header
		case api.Vote:
			empty.Slot = m.Slot
		case api.Proof:
			empty.Cert = m.Cert
		case api.Want:
			empty.Round = m.Round
		}
		if e := Check(empty); e != api.OK {
			t.Errorf("message %d: %d", i, e)
		}
		if !bytes.Equal(encode(t, empty), encode(t, m)) {
			t.Errorf("message %d has other bytes", i)
		}
	}
}

// P2.6, P2.9

func TestEncode(t *testing.T) {
	d := func(numbers ...int) string { return hex.EncodeToString(bytes.Join(samples(numbers...), nil)) }
	x20 := "14" + strings.Repeat("78", 20)
	last := "03100000" + "03" + d(1, 2, 3) + "04" + d(4, 5, 6, 7)
	want := []string{
		"010102" + "02000102" + "02" + "026162" + "0163",
		"020002" + "02000002" + "01" + d(9) + "03" + d(4, 5, 6),
		"030301" + "01000007" + d(3),
		"040200" + "02000002" + "01" + d(9) + "03" + d(4, 5, 6) + "03" + "000103",
		"050103" + "010203",
		"010000" + "00000001" + "01" + "0178",
		"010303" + "03100000" + "04" + x20 + x20 + x20 + x20,
		"020000" + "00000001" + "00" + "00",
		"020303" + last,
		"030000" + "00000001" + strings.Repeat("00", 32),
		"030303" + "03100000" + d(255),
		"040000" + "00000001" + "00" + "00" + "03" + "000102",
		"040303" + last + "04" + "00010203",
		"050000" + "000001",
		"050303" + "100000",
	}
	for i, m := range goodMessages() {
		if got := hex.EncodeToString(encode(t, m)); got != want[i] {
			t.Errorf("message %d: %s, want %s", i, got, want[i])
		}
	}
}

// P2.10

func TestDecodeGood(t *testing.T) {
	for i, m := range goodMessages() {
		got, e := Decode(encode(t, m))
		if e != api.OK || !reflect.DeepEqual(got, m) {
			t.Errorf("message %d: %v %d, want %v", i, got, e, m)
		}
	}
}

func TestDecodeTooLong(t *testing.T) {
	for _, first := range []byte{0, 1, 5, 6, 255} {
		b := make([]byte, api.MaxData+1)
		b[0] = first
		refuse(t, "MaxData + 1 bytes", b, api.ErrSize)
	}
	b := append(encode(t, api.Message{Kind: api.Want, Round: 1}), make([]byte, api.MaxData)...)
	refuse(t, "many more", b, api.ErrSize)
	refuse(t, "MaxData bytes", b[:api.MaxData], api.ErrForm)
}

func TestDecodeNothing(t *testing.T) {
	refuse(t, "nil", nil, api.ErrShort)
	refuse(t, "no bytes", []byte{}, api.ErrShort)
}

func TestDecodeKind(t *testing.T) {
	for k := range 256 {
		if k >= 1 && k <= 5 {
			refuse(t, "a kind alone", []byte{byte(k)}, api.ErrShort)
			continue
		}
		refuse(t, "no kind", []byte{byte(k)}, api.ErrKind)
		refuse(t, "no kind, and more", []byte{byte(k), 9, 9, 0, 0, 1}, api.ErrKind)
	}
}

func TestDecodeShort(t *testing.T) {
	for _, m := range goodMessages() {
		b := encode(t, m)
		for n := range b {
			refuse(t, "cut", b[:n:n], api.ErrShort)
			// The spare room is not read.
			refuse(t, "cut, with spare room", b[:n], api.ErrShort)
		}
	}
}

func TestDecodeMore(t *testing.T) {
	for _, m := range goodMessages() {
		b := encode(t, m)
		refuse(t, "one more", append(bytes.Clone(b), 0), api.ErrForm)
		refuse(t, "twice", append(bytes.Clone(b), b...), api.ErrForm)
	}
}

// Bytes that end too early, or are too many, are told of ahead of what they tell.
func TestDecodeFormComesFirst(t *testing.T) {
	refuse(t, "from nobody, cut", []byte{5, 9, 0, 0, 0}, api.ErrShort)
	refuse(t, "from nobody, and more", []byte{5, 9, 0, 0, 0, 1, 0}, api.ErrForm)
	refuse(t, "a round of 0, and more", []byte{5, 0, 0, 0, 0, 0, 0}, api.ErrForm)
	refuse(t, "255 transactions, cut", []byte{1, 0, 0, 0, 0, 0, 1, 255, 1, 97}, api.ErrShort)
	refuse(t, "255 batches, cut", append([]byte{2, 0, 0, 0, 0, 0, 1, 255}, make([]byte, 3000)...), api.ErrShort)
	refuse(t, "a long transaction, cut", append([]byte{1, 0, 0, 0, 0, 0, 1, 1, 255}, make([]byte, 254)...), api.ErrShort)
}

func TestDecodeRefused(t *testing.T) {
	batch := func(tail ...byte) []byte { return append([]byte{1, 0, 0, 0, 0, 0, 1}, tail...) }
	header := func(kind, round byte, batches, parents [][]byte) []byte {
		b := []byte{kind, 0, 0, 0, 0, 0, round, byte(len(batches))}
		b = append(b, bytes.Join(batches, nil)...)
		b = append(b, byte(len(parents)))
		return append(b, bytes.Join(parents, nil)...)
	}
	cert := func(voters ...byte) []byte {
		return append(append(header(4, 1, nil, nil), byte(len(voters))), voters...)
	}
	for i, c := range []struct {
		bytes []byte
		want  api.Errno
	}{
		{[]byte{5, 4, 0, 0, 0, 1}, api.ErrRange},
		{[]byte{5, 0, 255, 0, 0, 1}, api.ErrRange},
		{[]byte{5, 0, 0, 0, 0, 0}, api.ErrRange},
		{[]byte{5, 0, 0, 0x10, 0, 1}, api.ErrRange},
		{[]byte{5, 0, 0, 255, 255, 255}, api.ErrRange},
		{[]byte{1, 0, 0, 4, 0, 0, 1, 1, 1, 97}, api.ErrRange},
		{[]byte{1, 0, 0, 0, 0, 0, 0, 1, 1, 97}, api.ErrRange},
		{batch(0), api.ErrSize},
		{batch(1, 0), api.ErrSize},
		{batch(append([]byte{1, 21}, text(21)...)...), api.ErrSize},
		{batch(5, 1, 97, 1, 97, 1, 97, 1, 97, 1, 97), api.ErrSize},
		{batch(append([]byte{255}, make([]byte, 255)...)...), api.ErrSize},
		{header(2, 0, nil, nil), api.ErrRange},
		{header(2, 1, samples(1, 2, 3, 4), nil), api.ErrSize},
		{header(2, 2, nil, samples(1, 2, 3, 4, 5)), api.ErrSize},
		{header(2, 1, samples(1, 1), nil), api.ErrTwice},
		{header(2, 2, nil, samples(1, 2, 2)), api.ErrTwice},
		{header(2, 1, nil, samples(1, 2, 3)), api.ErrFew},
		{header(2, 2, nil, samples(1, 2)), api.ErrFew},
		{append([]byte{3, 0, 0, 4, 0, 0, 1}, sample(1)...), api.ErrRange},
		{append([]byte{3, 0, 0, 0, 0, 0, 0}, sample(1)...), api.ErrRange},
		{cert(), api.ErrFew},
		{cert(0, 1), api.ErrFew},
		{cert(0, 1, 4), api.ErrRange},
		{cert(0, 1, 1), api.ErrOrder},
		{cert(0, 1, 2, 3, 3), api.ErrSize},
		{cert(make([]byte, 255)...), api.ErrSize},
		{append(header(4, 2, nil, nil), 3, 0, 1, 2), api.ErrFew},
	} {
		m, e := Decode(c.bytes)
		if e != c.want || !reflect.DeepEqual(m, api.Message{}) {
			t.Errorf("case %d: %v %d, want %d", i, m, e, c.want)
		}
	}
}

// Whatever byte is changed: what is taken is what these bytes are of.
func TestDecodeIsTheOnlyOne(t *testing.T) {
	taken := 0
	for _, m := range goodMessages() {
		good := encode(t, m)
		for i := range good {
			for x := range 256 {
				b := bytes.Clone(good)
				b[i] = byte(x)
				got, e := Decode(b)
				if e != api.OK {
					continue
				}
				taken++
				if back, e := Encode(got); e != api.OK || !bytes.Equal(back, b) {
					t.Fatalf("%x told %v, whose bytes are %x", b, got, back)
				}
			}
		}
	}
	if taken < 1000 {
		t.Errorf("only %d were taken", taken)
	}
}

func FuzzDecode(f *testing.F) {
	for _, m := range goodMessages() {
		b, _ := Encode(m)
		f.Add(b)
	}
	f.Fuzz(func(t *testing.T, b []byte) {
		m, e := Decode(b)
		if e != api.OK {
			return
		}
		if back, e := Encode(m); e != api.OK || !bytes.Equal(back, b) {
			t.Fatalf("%x told %v, whose bytes are %x", b, m, back)
		}
	})
}

// What holds everywhere: arguments stay, answers are new.

// roomy: a digest with spare room that would show a write.
func roomy(n int) []byte { return append(sample(n), 0xee, 0xee)[:digestSize] }

func roomyList(numbers ...int) [][]byte {
	l := make([][]byte, 0, len(numbers)+1)
	for _, n := range numbers {
		l = append(l, roomy(n))
	}
	l[:cap(l)][len(l)] = []byte("spare")
	return l
}

func roomyMessages() []api.Message {
	header := api.Header{Author: 1, Round: 2, Batches: roomyList(1, 2), Parents: roomyList(3, 4, 5)}
	return []api.Message{
		{Kind: api.Bundle, Batch: api.Batch{Number: 1, Txs: []string{"a", "b", "spare"}[:2]}},
		{Kind: api.Offer, Header: header},
		{Kind: api.Vote, Slot: api.Slot{Round: 1, Digest: roomy(1)}},
		{Kind: api.Proof, Cert: api.Cert{Header: header, Voters: []int{0, 1, 2, 77}[:3]}},
	}
}

// wholes: all that a message's lists reach, spare room too.
func wholes(m api.Message) []any {
	l := []any{m.Batch.Txs[:cap(m.Batch.Txs)], m.Slot.Digest[:cap(m.Slot.Digest)], m.Cert.Voters[:cap(m.Cert.Voters)]}
	for _, h := range []api.Header{m.Header, m.Cert.Header} {
		for _, ds := range [][][]byte{h.Batches, h.Parents} {
			ds = ds[:cap(ds)]
			l = append(l, ds)
			for _, d := range ds {
				l = append(l, d[:cap(d)])
			}
		}
	}
	return l
}

func TestArgumentsStay(t *testing.T) {
	for i, m := range roomyMessages() {
		Check(m)
		CheckBatch(m.Batch)
		CheckHeader(m.Header)
		CheckCert(m.Cert)
		CheckSlot(m.Slot)
		BatchDigest(m.Batch)
		HeaderDigest(m.Header)
		b := encode(t, m)
		if !reflect.DeepEqual(wholes(m), wholes(roomyMessages()[i])) {
			t.Errorf("message %d was changed", i)
		}
		room := append(bytes.Clone(b), 0xee, 0xee, 0xee)
		kept := bytes.Clone(room)
		Decode(room[:len(b)])
		if !bytes.Equal(room, kept) {
			t.Errorf("the bytes of message %d were changed", i)
		}
	}
}

// digestsOf a message: each list of bytes in it.
func digestsOf(m api.Message) [][]byte {
	l := [][]byte{m.Slot.Digest}
	for _, h := range []api.Header{m.Header, m.Cert.Header} {
		l = append(l, h.Batches...)
		l = append(l, h.Parents...)
	}
	return l
}

func overwrite(b []byte) {
	b = b[:cap(b)]
	for i := range b {
		b[i] = 0xee
	}
}

func TestAnswersAreNew(t *testing.T) {
	for i, m := range goodMessages() {
		b := encode(t, m)
		other := encode(t, m)
		overwrite(other)
		if !bytes.Equal(b, encode(t, m)) {
			t.Errorf("message %d: two answers share memory", i)
		}
		got, _ := Decode(b)
		overwrite(b)
		if !reflect.DeepEqual(got, m) {
			t.Errorf("message %d: the answer hangs on the bytes", i)
		}
		for j, d := range digestsOf(got) {
			overwrite(d)
			for k, other := range digestsOf(got)[j+1:] {
				if !bytes.Equal(other, digestsOf(m)[j+1+k]) {
					t.Errorf("message %d: digests %d and %d share memory", i, j, j+1+k)
				}
			}
		}
		overwriteLists(got.Header.Batches, got.Cert.Header.Batches)
		for k, d := range append(got.Header.Parents, got.Cert.Header.Parents...) {
			if len(d) != digestSize {
				t.Errorf("message %d: parent %d stood in the batches' room", i, k)
			}
		}
	}
}

func overwriteLists(lists ...[][]byte) {
	for _, l := range lists {
		l = l[:cap(l)]
		for i := range l {
			l[i] = nil
		}
	}
}

func TestDigestsAreNew(t *testing.T) {
	b, _ := BatchDigest(goodBatch())
	h, _ := HeaderDigest(goodHeader())
	b2, h2 := bytes.Clone(b), bytes.Clone(h)
	overwrite(b)
	overwrite(h)
	if again, _ := BatchDigest(goodBatch()); !bytes.Equal(again, b2) {
		t.Error("a batch's digest is kept")
	}
	if again, _ := HeaderDigest(goodHeader()); !bytes.Equal(again, h2) {
		t.Error("a header's digest is kept")
	}
}
