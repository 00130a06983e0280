package blake

import (
	"bytes"
	"crypto/sha256"
	"encoding/hex"
	"fmt"
	"slices"
	"strings"
	"testing"

	"sheaves/api"
)

// sample: n bytes, of which neighbours, and neighbouring blocks, differ.
func sample(n int) []byte {
	b := make([]byte, n)
	for i := range b {
		b[i] = byte(7*i + i/251 + 3)
	}
	return b
}

// samples: parts of these lengths.
func samples(lengths ...int) [][]byte {
	var l [][]byte
	for _, n := range lengths {
		l = append(l, sample(n))
	}
	return l
}

func hexWords(l []uint32) string {
	var out []string
	for _, w := range l {
		out = append(out, fmt.Sprintf("%08x", w))
	}
	return strings.Join(out, " ")
}

func mustSum(t *testing.T, b []byte) []byte {
	t.Helper()
	d, e := Sum(b)
	if e != api.OK {
		t.Fatalf("Sum of %d bytes: %v", len(b), e)
	}
	return d
}

func mustTag(t *testing.T, tag byte, parts ...[]byte) []byte {
	t.Helper()
	d, e := Tagged(tag, parts...)
	if e != api.OK {
		t.Fatalf("Tagged of %d parts: %v", len(parts), e)
	}
	return d
}

// P1.1

func TestFirstWords(t *testing.T) {
	want := "6a09e667 bb67ae85 3c6ef372 a54ff53a 510e527f 9b05688c 1f83d9ab 5be0cd19"
	if got := hexWords(firstWords[:]); got != want {
		t.Errorf("first words %s, want %s", got, want)
	}
}

func TestTurn(t *testing.T) {
	for _, c := range []struct {
		word uint32
		n    int
		want uint32
	}{
		{0x12345678, 16, 0x56781234},
		{0x12345678, 12, 0x67812345},
		{0x12345678, 8, 0x78123456},
		{0x00000001, 7, 0x02000000},
		{0x80000000, 7, 0x01000000},
	} {
		if got := turn(c.word, c.n); got != c.want {
			t.Errorf("%08x turned by %d: %08x, want %08x", c.word, c.n, got, c.want)
		}
	}
}

// P1.2

func TestMix(t *testing.T) {
	for _, c := range []struct {
		in   [4]uint32
		x, y uint32
		want string
	}{
		{[4]uint32{0, 0, 0, 0}, 0, 0, "00000000 00000000 00000000 00000000"},
		{[4]uint32{1, 2, 3, 4}, 5, 6, "001000ce 879c3839 ce0c1c03 ce001c00"},
		{[4]uint32{0xffffffff, 0xfffffffe, 0x80000000, 0x7fffffff}, 0xdeadbeef, 0x01234567, "ca94f318 c3c2b98c 0b9f28a4 4a8b8752"},
	} {
		var v mixture
		for i := range v {
			v[i] = 99
		}
		lane := [4]uint8{2, 7, 8, 13}
		for i, place := range lane {
			v[place] = c.in[i]
		}
		mix(&v, lane, c.x, c.y)
		var out []uint32
		for i, w := range v {
			if slices.Contains(lane[:], uint8(i)) {
				out = append(out, w)
			} else if w != 99 {
				t.Errorf("word %d is not of the lane, and was changed", i)
			}
		}
		if got := hexWords(out); got != c.want {
			t.Errorf("%x mixed with %x %x: %s, want %s", c.in, c.x, c.y, got, c.want)
		}
	}
}

// P1.3

func TestOrders(t *testing.T) {
	want := strings.Fields("0123456789abcdef ea489fd61c02b753 b8c052fdae367194 7931dcbe265a40f8 905724afe1bc683d " +
		"2c6a0b834d75fe19 c51fed4a0763928b db7ec13950f4862a 6fe9b308c2d714a5 a2847615fb9e3cd0")
	for i, o := range orders {
		var got strings.Builder
		for _, place := range o {
			fmt.Fprintf(&got, "%x", place)
		}
		if got.String() != want[i] {
			t.Errorf("order of round %d: %s, want %s", i, got.String(), want[i])
		}
	}
}

func TestLanes(t *testing.T) {
	want := "[[0 4 8 12] [1 5 9 13] [2 6 10 14] [3 7 11 15] [0 5 10 15] [1 6 11 12] [2 7 8 13] [3 4 9 14]]"
	if got := fmt.Sprint(lanes); got != want {
		t.Errorf("lanes %s, want %s", got, want)
	}
}

func TestTake(t *testing.T) {
	s := state{0x01020304, 0x02040608, 0x0306090c, 0x04080c10, 0x050a0f14, 0x060c1218, 0x070e151c, 0x08101820}
	for _, c := range []struct {
		size, taken int
		last        bool
		want        string
	}{
		{64, 64, false, "0dae2646 80827a81 d35a411a c8b4f784 7e17ecea 88cb7dbe b791ee9b 3caf3d8b"},
		{64, 64, true, "12da915f 52003b9b 666ba718 221d020e dd988190 759574ac 197f9cba 0532e94e"},
		{64, 128, true, "014e90b0 16219ba6 21c0c295 494f2c58 4d4ead6c 64171ec2 05356b20 e4d989ec"},
		{3, 67, true, "4d00bf5a 57462e91 b9cd3d7b df2b5b1d 443680d0 8f7cc86e 1caffbc0 b1170013"},
		{0, 0, true, "54f2d86b 15973399 f713dd15 47927386 2520e577 20381bf8 6b362b03 3a6c8a51"},
	} {
		got := take(s, sample(c.size), c.taken, c.last)
		if hexWords(got[:]) != c.want {
			t.Errorf("a block of %d bytes, %d taken, last %v: %s, want %s", c.size, c.taken, c.last, hexWords(got[:]), c.want)
		}
	}
}

// P1.4

func TestSumOfTexts(t *testing.T) {
	for _, c := range []struct{ text, want string }{
		{"", "69217a3079908094e11121d042354a7c1f55b6482ca1a51e1b250dfd1ed0eef9"},
		{"abc", "508c5e8c327c14e2e1a72ba34eeb452f37458b209ed63a294d999b4c86675982"},
	} {
		if got := hex.EncodeToString(mustSum(t, []byte(c.text))); got != c.want {
			t.Errorf("Sum of %q: %s, want %s", c.text, got, c.want)
		}
	}
}

func TestSumOfNil(t *testing.T) {
	if !bytes.Equal(mustSum(t, nil), mustSum(t, []byte{})) {
		t.Error("nil and a list without elements have different digests")
	}
}

func TestSumAtEdges(t *testing.T) {
	for _, c := range []struct {
		size int
		want string
	}{
		{1, "a28ac19d6bcbe2cd1d7de183485768d598e996b07889b9b11f418cb1b4a4fb0d"},
		{2, "7003138ee5c7d153bfd79e9ce6c76f5bfa17c23abe2ae017f24e4d7854f80939"},
		{3, "ca943acca89a34cf4040cf8ea24147dd94ea62a49de8ef9a88af5272339927b3"},
		{4, "939e42fdbf9188e4782dbe91677ce6654f74f9e561975332838c211683811e5a"},
		{63, "de27df0e375d83c49f1af9ca8270f9f2fe7b70bf800fc01672db0e9746021ebf"},
		{64, "5377e4ff957bda4d4535f4879876b71a61056c4cec31e78397c66ec47a86a130"},
		{65, "19b1b26fba093f4a670d8913e1b71cbb2916dfa701018cc6b05785c966593374"},
		{127, "6846f99493436241d0a6f289c9a911b1d0f4860db8f2b5df5295ffd37d03a3c4"},
		{128, "83470c75afa23d90cd7659906e4b47daa278131fbb225241dd37a40fd5355ac7"},
		{129, "26fd8892ab0a5f12d4acbff1efd7dcd92b99e2d377f888f07e3cb81b232b11cf"},
		{255, "63c56cccb6128d0555d4af4ec2c42655ee3023a497aa789499f4cfcfa1777c00"},
		{256, "884352a962d118167a335ebbf83548f5942507b36f343562f505bbaccc9225a1"},
		{3968, "8a5ac02f74996a70ba458a1ed545b0c7114472e6ceb7fbb71bcea16c3208b4dd"},
		{3969, "be7a10be1897d3523a0df21a83d2fbb5cbff7d2a8edb3ef6defd4c130686297f"},
		{3999, "a776c5cad5d3afc4b88d01cf859987fcdbd5250aab0335f0613402d978566ba3"},
		{api.MaxData, "1bb82fd48ad558ec4162a76c3a8aef5b0b2e4d41b56e178cc5c705dad6dad772"},
	} {
		if got := hex.EncodeToString(mustSum(t, sample(c.size))); got != c.want {
			t.Errorf("Sum of %d bytes: %s, want %s", c.size, got, c.want)
		}
	}
}

// All lengths that may be, told by one digest of the digests.
func TestSumOfEveryLength(t *testing.T) {
	all := sha256.New()
	for n := range api.MaxData + 1 {
		all.Write(mustSum(t, sample(n)))
	}
	want := "3bf159b0e1c4dcd08fd5245f777ac883f1f9218a5c89d7fa75e2043d9324973a"
	if got := hex.EncodeToString(all.Sum(nil)); got != want {
		t.Errorf("digests of 0 to MaxData bytes: %s, want %s", got, want)
	}
}

func TestSumTooLong(t *testing.T) {
	for _, n := range []int{api.MaxData + 1, api.MaxData + 64, 2 * api.MaxData, 1 << 16, 1<<16 + 3} {
		if d, e := Sum(make([]byte, n)); len(d) != 0 || e != api.ErrSize {
			t.Errorf("Sum of %d bytes: %v %v, want ErrSize alone", n, d, e)
		}
	}
}

// P1.5

func TestTaggedValues(t *testing.T) {
	for _, c := range []struct {
		tag   byte
		sizes []int
		want  string
	}{
		{0, nil, "e34d74dbaf4ff4c6abd871cc220451d2ea2648846c7757fbaac82fe51ad64bea"},
		{1, nil, "fc87f4f1d721942d282aa61989c069b290d1447d20d4b811430f47ea0edf9991"},
		{255, nil, "8a1ef126b4e286703744a80b2f414be700cc93023e7bfc8688b79b54931abd27"},
		{1, []int{0}, "1dac0dfa46d971ae40b9a9caf55aee3014cba3c5ed8124b53c38c3d00fef41c1"},
		{1, []int{0, 0}, "dc3af49bff6400e17a04ba73e33b8ea64e0941f8d2776d7ff27fc9e8ed6e9c30"},
		{2, []int{1}, "be7cfd3d96afa1e8f67937b1f5105c07c20d2c8d532bc941ae2f821e65d50134"},
		{2, []int{61}, "4f645411f93aa9a9bbcd76c9ec76f62c6cb4472b983827e47f532096b922ef6d"},
		{2, []int{62}, "e747515a2e40b491ca20e34d14ca9eea56d43ba2b34a38cfabdb11cd701cee43"},
		{2, []int{255}, "0bc57be80c876f6d016f1f75f3ac1c866ab92b5801f4b1c751b0d034c3f7f1bf"},
		{2, []int{256}, "fba0369f027d4ff4b1cac6113efa13d7d400bb12dd6417ba9a048464ef3861cb"},
		{2, []int{257}, "853da293b7218f340021a77d3932787692afc393a6b66ed87610857f825289e8"},
		{3, []int{10, 0, 20}, "81e455645052cf009c607d69c2dd198f8bd1993b2c9602fe0ff24720d61ac2f5"},
		{4, []int{3997}, "2df10475511c791f87c7f010ad5c8c8fb870aa6b312752c4d066c6188da0a47a"},
		{4, []int{0, 3995}, "2660a08a218ec525384ff59b4a97e9310abe54a0fd3c83740d2ab1d7521acb10"},
		{4, []int{2000, 1995}, "6e6deadb3dd40c4379cdc63cf9a241598565c2fb4349a3ee991e5e6a7ef7d977"},
		{5, make([]int, 1999), "538f9e217718915a78384cd2e3b40a8d3b19246e9d29bd8ce092dd910432593e"},
	} {
		if got := hex.EncodeToString(mustTag(t, c.tag, samples(c.sizes...)...)); got != c.want {
			t.Errorf("Tagged with %d, of %d parts: %s, want %s", c.tag, len(c.sizes), got, c.want)
		}
	}
}

func TestTaggedIsASum(t *testing.T) {
	long := sample(300)
	whole := append([]byte{9, 0, 2, 'h', 'i', 0, 0, 1, 44}, long...)
	if !bytes.Equal(mustTag(t, 9, []byte("hi"), nil, long), mustSum(t, whole)) {
		t.Error("Tagged is not the digest of the tag, and each part behind its length, the higher byte first")
	}
}

func TestTaggedWithoutElements(t *testing.T) {
	var none [][]byte
	if !bytes.Equal(mustTag(t, 7, none...), mustTag(t, 7)) {
		t.Error("no parts, handed in as nil, have another digest")
	}
	if !bytes.Equal(mustTag(t, 7, nil), mustTag(t, 7, []byte{})) {
		t.Error("a part without bytes has another digest as nil")
	}
}

func TestTaggedTellsApart(t *testing.T) {
	met := map[string]int{}
	for i, d := range [][]byte{
		mustTag(t, 1), mustTag(t, 1, nil), mustTag(t, 1, nil, nil), mustTag(t, 2),
		mustTag(t, 1, []byte("ab")), mustTag(t, 2, []byte("ab")),
		mustTag(t, 1, []byte("a"), []byte("b")), mustTag(t, 1, []byte("b"), []byte("a")),
		mustTag(t, 1, []byte("ab"), nil), mustTag(t, 1, nil, []byte("ab")),
		mustTag(t, 1, []byte{0}), mustTag(t, 1, []byte{0, 0}),
	} {
		if j, ok := met[string(d)]; ok {
			t.Errorf("cases %d and %d have the same digest", j, i)
		}
		met[string(d)] = i
	}
}

func TestTaggedTooLong(t *testing.T) {
	for _, sizes := range [][]int{
		{api.MaxData - 2},
		{api.MaxData},
		{0, api.MaxData - 4},
		{api.MaxData - 3, 0},
		{2000, 1996},
		{1 << 16},
		{1<<16 + 3},
		{0, 1 << 16, 5},
		{api.MaxData + 1, 0},
		make([]int, 2000),
		make([]int, 100000),
	} {
		if d, e := Tagged(1, samples(sizes...)...); len(d) != 0 || e != api.ErrSize {
			t.Errorf("Tagged, the first of %d parts with %d bytes: %v %v, want ErrSize alone", len(sizes), sizes[0], d, e)
		}
	}
}

// What holds everywhere

func TestArgumentsStay(t *testing.T) {
	for _, n := range []int{0, 1, 63, 64, 65, 3900, api.MaxData + 1} {
		room := sample(n + 100)
		Sum(room[:n])
		Tagged(1, room[:n], room[:n/2])
		if !bytes.Equal(room, sample(n+100)) {
			t.Errorf("%d bytes that were handed in, or their spare room, were changed", n)
		}
	}
	room := samples(5, 6, 7)
	Tagged(1, room[:1]...)
	if len(room[0]) != 5 || len(room[1]) != 6 || len(room[2]) != 7 {
		t.Error("a list of parts, or its spare room, was changed")
	}
}

func TestAnswersAreNew(t *testing.T) {
	for _, answer := range []func() []byte{
		func() []byte { return mustSum(t, []byte("abc")) },
		func() []byte { return mustTag(t, 1, []byte("abc")) },
	} {
		first := answer()
		want := bytes.Clone(first)
		clear(first[:cap(first)])
		second := answer()
		if !bytes.Equal(second, want) {
			t.Error("an answer hangs on what was done with the one ahead of it")
		}
		clear(first[:cap(first)])
		if !bytes.Equal(second, want) {
			t.Error("two answers share memory")
		}
	}
}
