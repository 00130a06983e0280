package lines

import (
	"encoding/hex"
	"fmt"
	"math"
	"math/big"
	"math/rand"
	"regexp"
	"slices"
	"strings"
	"testing"

	"sheaves/api"
)

// everyByte from 0 to 255, in order.
func everyByte() string {
	var b []byte
	for i := range 256 {
		b = append(b, byte(i))
	}
	return string(b)
}

// goodTexts: at the edges, and of any bytes; their length is told in bytes.
func goodTexts() []string {
	return []string{
		"", "a", "\x00", "\x00\x00", "\xff", "\n", " ", "0", "61", "é", "ab\ncd", "flow\n",
		everyByte(),
		strings.Repeat("x", api.MaxData-1),
		strings.Repeat("x", api.MaxData),
		strings.Repeat("\x00", api.MaxData),
		strings.Repeat("é", api.MaxData/2),
	}
}

func longTexts() []string {
	return []string{
		strings.Repeat("x", api.MaxData+1),
		strings.Repeat("\x00", api.MaxData+1),
		strings.Repeat("é", api.MaxData/2) + "x",
		strings.Repeat("x", 2*api.MaxData),
		strings.Repeat("x", 1<<16),
		strings.Repeat("x", 1<<20),
	}
}

var (
	goodPicks = []int{0, 1, 9, 10, 99, 255, 256, api.MaxTape - 1, api.MaxTape}
	noPicks   = []int{-1, api.MaxTape + 1, 1 << 32, 1<<32 + 1, math.MinInt, math.MaxInt}
	noNodes   = []int{-1, api.Nodes, api.Nodes + 1, 255, 256, 1 << 32, 1<<32 + 1, math.MinInt, math.MaxInt}
	noKinds   = []int{0, -1, 11, 12, 255, 256, 257, 1 << 32, 1<<32 + 1, math.MinInt, math.MaxInt}
)

// A sort of acts, as the chapter tells it.
type sort struct {
	kind             int
	word             string
	node, pick, text bool
}

func sorts() []sort {
	return []sort{
		{1, "submit", true, false, true},
		{2, "work", true, false, false},
		{3, "sync", true, false, false},
		{4, "take", false, true, false},
		{5, "lose", false, true, false},
		{6, "copy", false, true, false},
		{7, "crash", true, true, false},
		{8, "start", true, false, false},
		{9, "forge", true, false, true},
		{10, "flow", false, false, false},
	}
}

// goodActs: of each kind all edges.
func goodActs() []api.Act {
	var l []api.Act
	for _, s := range sorts() {
		nodes, picks, texts := []int{0}, []int{0}, []string{""}
		if s.node {
			nodes = []int{0, 1, 2, 3}
		}
		if s.pick {
			picks = goodPicks
		}
		if s.text {
			texts = goodTexts()
		}
		for _, n := range nodes {
			for _, p := range picks {
				for _, t := range texts {
					l = append(l, api.Act{Kind: s.kind, Node: n, Pick: p, Text: t})
				}
			}
		}
	}
	return l
}

// A wrong act, and how it is refused.
type wrongAct struct {
	act  api.Act
	want api.Errno
}

func wrongActs() []wrongAct {
	long := strings.Repeat("x", api.MaxData+1)
	l := []wrongAct{
		{api.Act{Kind: api.Submit, Pick: 1}, api.ErrForm},
		{api.Act{Kind: api.Submit, Node: 3, Pick: api.MaxTape, Text: "a"}, api.ErrForm},
		{api.Act{Kind: api.Work, Pick: 1}, api.ErrForm},
		{api.Act{Kind: api.Work, Text: "a"}, api.ErrForm},
		{api.Act{Kind: api.Sync, Node: 1, Pick: 1}, api.ErrForm},
		{api.Act{Kind: api.Sync, Node: 1, Text: "\x00"}, api.ErrForm},
		{api.Act{Kind: api.Take, Node: 1}, api.ErrForm},
		{api.Act{Kind: api.Take, Pick: 1, Text: "a"}, api.ErrForm},
		{api.Act{Kind: api.Lose, Node: 3, Pick: 1}, api.ErrForm},
		{api.Act{Kind: api.Lose, Text: "a"}, api.ErrForm},
		{api.Act{Kind: api.Copy, Node: 2}, api.ErrForm},
		{api.Act{Kind: api.Copy, Text: strings.Repeat("x", api.MaxData)}, api.ErrForm},
		{api.Act{Kind: api.Crash, Text: "a"}, api.ErrForm},
		{api.Act{Kind: api.Crash, Node: 1, Pick: 1, Text: " "}, api.ErrForm},
		{api.Act{Kind: api.Start, Node: 1, Pick: 1}, api.ErrForm},
		{api.Act{Kind: api.Start, Text: "a"}, api.ErrForm},
		{api.Act{Kind: api.Forge, Pick: 1}, api.ErrForm},
		{api.Act{Kind: api.Forge, Node: 1, Pick: 1, Text: "a"}, api.ErrForm},
		{api.Act{Kind: api.Flow, Node: 1}, api.ErrForm},
		{api.Act{Kind: api.Flow, Pick: 1}, api.ErrForm},
		{api.Act{Kind: api.Flow, Text: "a"}, api.ErrForm},
		{api.Act{Kind: api.Flow, Node: 1, Pick: 1, Text: "a"}, api.ErrForm},
		// Of several errors the one that is named first.
		{api.Act{}, api.ErrKind},
		{api.Act{Kind: 11, Node: 4, Pick: -1, Text: long}, api.ErrKind},
		{api.Act{Kind: api.Flow, Node: 4, Text: long}, api.ErrRange},
		{api.Act{Kind: api.Flow, Pick: -1, Text: long}, api.ErrRange},
		{api.Act{Kind: api.Take, Node: 4}, api.ErrRange},
		{api.Act{Kind: api.Work, Pick: api.MaxTape + 1}, api.ErrRange},
		{api.Act{Kind: api.Flow, Text: long}, api.ErrSize},
		{api.Act{Kind: api.Flow, Node: 1, Text: long}, api.ErrSize},
		{api.Act{Kind: api.Submit, Pick: 1, Text: long}, api.ErrSize},
	}
	for _, k := range noKinds {
		l = append(l, wrongAct{api.Act{Kind: k}, api.ErrKind}, wrongAct{api.Act{Kind: k, Node: 9, Text: "a"}, api.ErrKind})
	}
	for _, s := range sorts() {
		for _, n := range noNodes {
			l = append(l, wrongAct{api.Act{Kind: s.kind, Node: n}, api.ErrRange})
		}
		for _, p := range noPicks {
			l = append(l, wrongAct{api.Act{Kind: s.kind, Pick: p}, api.ErrRange})
		}
		for _, t := range longTexts() {
			l = append(l, wrongAct{api.Act{Kind: s.kind, Text: t}, api.ErrSize})
		}
	}
	return l
}

// brief: an act as a text that is not too long to be told.
func brief(a any) string {
	s := fmt.Sprintf("%+q", fmt.Sprint(a))
	if len(s) > 120 {
		return s[:120] + ".."
	}
	return s
}

// flows: so many lines.
func flows(n int) string { return strings.Repeat("flow\n", n) }

// flowActs: so many acts.
func flowActs(n int) []api.Act {
	return slices.Repeat([]api.Act{{Kind: api.Flow}}, n)
}

// shown: the line of an act that may be, made without the package.
func shown(a api.Act) string {
	s := sorts()[a.Kind-1]
	line := s.word
	if s.node {
		line += fmt.Sprintf(" %d", a.Node)
	}
	if s.pick {
		line += fmt.Sprintf(" %d", a.Pick)
	}
	if s.text {
		line += " " + hex.EncodeToString([]byte(a.Text))
	}
	return line + "\n"
}

// checked: what the chapter says of an act, found without the package.
func checked(a api.Act) api.Errno {
	if a.Kind < 1 || a.Kind > 10 {
		return api.ErrKind
	}
	if !slices.Contains([]int{0, 1, 2, 3}, a.Node) || a.Pick < 0 || a.Pick > 400000 {
		return api.ErrRange
	}
	if len(a.Text) > 4000 {
		return api.ErrSize
	}
	s := sorts()[a.Kind-1]
	if !s.node && a.Node != 0 || !s.pick && a.Pick != 0 || !s.text && a.Text != "" {
		return api.ErrForm
	}
	return api.OK
}

var forms = [...]*regexp.Regexp{
	regexp.MustCompile(`\A(submit|forge) (0|[1-9][0-9]*)() ((?:[0-9a-f][0-9a-f])*)\z`),
	regexp.MustCompile(`\A(work|sync|start) (0|[1-9][0-9]*)()()\z`),
	regexp.MustCompile(`\A(take|lose|copy)() (0|[1-9][0-9]*)()\z`),
	regexp.MustCompile(`\A(crash) (0|[1-9][0-9]*) (0|[1-9][0-9]*)()\z`),
	regexp.MustCompile(`\A(flow)()()()\z`),
}

// told: the act that a line in form tells, found without the package.
func told(line string) (api.Act, bool) {
	for _, form := range forms {
		m := form.FindStringSubmatch(line)
		if m == nil {
			continue
		}
		var a api.Act
		for _, s := range sorts() {
			if s.word == m[1] {
				a.Kind = s.kind
			}
		}
		for i, field := range []*int{&a.Node, &a.Pick} {
			if m[2+i] == "" {
				continue
			}
			n, _ := new(big.Int).SetString(m[2+i], 10)
			if !n.IsInt64() {
				return api.Act{}, false
			}
			*field = int(n.Int64())
		}
		text, _ := hex.DecodeString(m[4])
		a.Text = string(text)
		return a, true
	}
	return api.Act{}, false
}

// read: what the chapter says of lines, found without the package.
func read(s string) ([]api.Act, int, api.Errno) {
	var acts []api.Act
	all := strings.SplitAfter(s, "\n")
	if all[len(all)-1] == "" {
		all = all[:len(all)-1]
	}
	for place, line := range all {
		if place >= 3000 {
			return nil, place, api.ErrSize
		}
		if !strings.HasSuffix(line, "\n") {
			return nil, place, api.ErrForm
		}
		a, ok := told(line[:len(line)-1])
		if !ok {
			return nil, place, api.ErrForm
		}
		if e := checked(a); e != api.OK {
			return nil, place, e
		}
		acts = append(acts, a)
	}
	return acts, 0, api.OK
}

func wantRead(t *testing.T, s string, want []api.Act, wantPlace int, wantErr api.Errno) {
	t.Helper()
	l, place, e := Read(s)
	if !slices.Equal(l, want) || place != wantPlace || e != wantErr {
		t.Errorf("Read of %s: %s, place %d, %d; want %s, place %d, %d",
			brief(s), brief(l), place, e, brief(want), wantPlace, wantErr)
	}
}

func wantShow(t *testing.T, l []api.Act, want string, wantPlace int, wantErr api.Errno) {
	t.Helper()
	s, place, e := Show(l)
	if s != want || place != wantPlace || e != wantErr {
		t.Errorf("Show of %s: %s, place %d, %d; want %s, place %d, %d",
			brief(l), brief(s), place, e, brief(want), wantPlace, wantErr)
	}
}

// P9.1

func TestCheckGood(t *testing.T) {
	for _, a := range goodActs() {
		if e := Check(a); e != api.OK {
			t.Errorf("%s: %d", brief(a), e)
		}
	}
}

func TestCheckWrong(t *testing.T) {
	for _, w := range wrongActs() {
		if e := Check(w.act); e != w.want {
			t.Errorf("%s: %d, want %d", brief(w.act), e, w.want)
		}
	}
}

// TestCheckAll: every kind with everything, right and wrong.
func TestCheckAll(t *testing.T) {
	kinds := append([]int{1, 2, 3, 4, 5, 6, 7, 8, 9, 10}, noKinds...)
	nodes := append([]int{0, 1, 2, 3}, noNodes...)
	picks := slices.Concat(goodPicks, noPicks)
	texts := append(goodTexts(), longTexts()...)
	for _, k := range kinds {
		for _, n := range nodes {
			for _, p := range picks {
				for _, text := range texts {
					a := api.Act{Kind: k, Node: n, Pick: p, Text: text}
					if e := Check(a); e != checked(a) {
						t.Fatalf("%s: %d, want %d", brief(a), e, checked(a))
					}
				}
			}
		}
	}
}

// P9.2

func TestShowOne(t *testing.T) {
	for _, c := range []struct {
		act  api.Act
		want string
	}{
		{api.Act{Kind: api.Submit, Node: 1, Text: "a"}, "submit 1 61\n"},
		{api.Act{Kind: api.Submit}, "submit 0 \n"},
		{api.Act{Kind: api.Submit, Node: 3, Text: "\x00\x0f\xf0\xff\n"}, "submit 3 000ff0ff0a\n"},
		{api.Act{Kind: api.Work}, "work 0\n"},
		{api.Act{Kind: api.Sync, Node: 3}, "sync 3\n"},
		{api.Act{Kind: api.Take}, "take 0\n"},
		{api.Act{Kind: api.Lose, Pick: api.MaxTape}, "lose 400000\n"},
		{api.Act{Kind: api.Copy, Pick: 10}, "copy 10\n"},
		{api.Act{Kind: api.Crash, Node: 2, Pick: 9}, "crash 2 9\n"},
		{api.Act{Kind: api.Crash}, "crash 0 0\n"},
		{api.Act{Kind: api.Crash, Node: 3, Pick: api.MaxTape}, "crash 3 400000\n"},
		{api.Act{Kind: api.Start, Node: 2}, "start 2\n"},
		{api.Act{Kind: api.Forge, Node: 0, Text: "\xde\xad"}, "forge 0 dead\n"},
		{api.Act{Kind: api.Forge, Node: 2}, "forge 2 \n"},
		{api.Act{Kind: api.Flow}, "flow\n"},
	} {
		wantShow(t, []api.Act{c.act}, c.want, 0, api.OK)
		wantRead(t, c.want, []api.Act{c.act}, 0, api.OK)
	}
}

func TestShowEveryByte(t *testing.T) {
	for i := range 256 {
		a := api.Act{Kind: api.Submit, Node: 1, Text: string([]byte{byte(i)})}
		wantShow(t, []api.Act{a}, fmt.Sprintf("submit 1 %02x\n", i), 0, api.OK)
	}
	a := api.Act{Kind: api.Forge, Text: everyByte()}
	wantShow(t, []api.Act{a}, fmt.Sprintf("forge 0 %x\n", everyByte()), 0, api.OK)
}

func TestShowEdges(t *testing.T) {
	var all strings.Builder
	for _, a := range goodActs() {
		wantShow(t, []api.Act{a}, shown(a), 0, api.OK)
		all.WriteString(shown(a))
	}
	wantShow(t, goodActs(), all.String(), 0, api.OK)
}

func TestShowNone(t *testing.T) {
	wantShow(t, nil, "", 0, api.OK)
	wantShow(t, []api.Act{}, "", 0, api.OK)
	wantShow(t, make([]api.Act, 0, 5), "", 0, api.OK)
}

func TestShowMaxActs(t *testing.T) {
	wantShow(t, flowActs(api.MaxActs-1), flows(api.MaxActs-1), 0, api.OK)
	wantShow(t, flowActs(api.MaxActs), flows(api.MaxActs), 0, api.OK)
	wantShow(t, flowActs(api.MaxActs+1), "", 0, api.ErrSize)
	wantShow(t, flowActs(3*api.MaxActs), "", 0, api.ErrSize)
	for _, place := range []int{0, 1, api.MaxActs - 1, api.MaxActs} {
		l := flowActs(api.MaxActs + 1)
		l[place] = api.Act{Kind: 11}
		wantShow(t, l, "", 0, api.ErrSize)
	}
	wantShow(t, make([]api.Act, api.MaxActs+1), "", 0, api.ErrSize)
}

func TestShowWrong(t *testing.T) {
	for _, w := range wrongActs() {
		for _, ahead := range []int{0, 1, 7} {
			l := append(flowActs(ahead), w.act)
			wantShow(t, l, "", ahead, w.want)
			l = append(l, api.Act{Kind: api.Work, Node: 1})
			wantShow(t, l, "", ahead, w.want)
		}
	}
	l := flowActs(api.MaxActs)
	l[api.MaxActs-1].Node = 4
	wantShow(t, l, "", api.MaxActs-1, api.ErrRange)
}

// TestShowFirst: of several acts that may not be the first one tells.
func TestShowFirst(t *testing.T) {
	wrongs := []wrongAct{
		{api.Act{Kind: 11}, api.ErrKind},
		{api.Act{Kind: api.Work, Node: 4}, api.ErrRange},
		{api.Act{Kind: api.Submit, Text: strings.Repeat("x", api.MaxData+1)}, api.ErrSize},
		{api.Act{Kind: api.Flow, Pick: 1}, api.ErrForm},
	}
	for _, a := range wrongs {
		for _, b := range wrongs {
			wantShow(t, []api.Act{{Kind: api.Flow}, a.act, b.act, {Kind: api.Flow}}, "", 1, a.want)
		}
	}
}

// P9.3

func TestReadOne(t *testing.T) {
	for _, a := range goodActs() {
		wantRead(t, shown(a), []api.Act{a}, 0, api.OK)
	}
}

func TestReadSeveral(t *testing.T) {
	wantRead(t, "take 5\nforge 0 61\n", []api.Act{{Kind: api.Take, Pick: 5}, {Kind: api.Forge, Text: "a"}}, 0, api.OK)
	var all strings.Builder
	for _, a := range goodActs() {
		all.WriteString(shown(a))
	}
	wantRead(t, all.String(), goodActs(), 0, api.OK)
}

func TestReadNone(t *testing.T) { wantRead(t, "", nil, 0, api.OK) }

func TestReadMaxActs(t *testing.T) {
	wantRead(t, flows(api.MaxActs-1), flowActs(api.MaxActs-1), 0, api.OK)
	wantRead(t, flows(api.MaxActs), flowActs(api.MaxActs), 0, api.OK)
	wantRead(t, flows(api.MaxActs+1), nil, api.MaxActs, api.ErrSize)
	wantRead(t, flows(3*api.MaxActs), nil, api.MaxActs, api.ErrSize)
	// What stands too far behind is not asked for its form.
	for _, line := range []string{"flow", "\n", " ", "x", "x\n", "work 4\n", "work 4", "flow 1\n", "\n\n\n"} {
		wantRead(t, flows(api.MaxActs)+line, nil, api.MaxActs, api.ErrSize)
	}
	// An earlier line that is wrong tells its error, however many there are.
	for _, place := range []int{0, 1, api.MaxActs - 1} {
		wantRead(t, flows(place)+"x\n"+flows(api.MaxActs), nil, place, api.ErrForm)
		wantRead(t, flows(place)+"work 4\n"+flows(api.MaxActs), nil, place, api.ErrRange)
		wantRead(t, flows(place)+"flow", nil, place, api.ErrForm)
	}
	most := shown(api.Act{Kind: api.Submit, Node: 3, Text: strings.Repeat("\xff", api.MaxData)})
	l, place, e := Read(strings.Repeat(most, api.MaxActs))
	if len(l) != api.MaxActs || place != 0 || e != api.OK {
		t.Errorf("the greatest lines: %d acts, place %d, %d", len(l), place, e)
	}
	if s, place, e := Show(l); s != strings.Repeat(most, api.MaxActs) || place != 0 || e != api.OK {
		t.Errorf("the greatest acts: %d bytes, place %d, %d", len(s), place, e)
	}
}

// formless lines, without the byte 10 at their end.
func formless() []string {
	long := strings.Repeat("61", api.MaxData+1)
	return []string{
		// No word of a kind.
		"", " ", "x", "f", "flo", "floww", "flow\x00", "flow\r", "flow\t", "\xff", "é", "nothing", "1", "10",
		"wor 1", "works 1", "w 1", "submi 1 61", "submits 1 61", "0 1", "none 1 1 61", " 1", " 1 61",
		// Great letters.
		"Flow", "FLOW", "floW", "Work 1", "SYNC 1", "Submit 1 61", "Take 1", "cRash 1 1",
		// Blanks too many, ahead and behind.
		" flow", "flow ", "flow  ", "  flow", "work  1", "work 1 ", " work 1", "work 1  ", "work   1",
		"take 1 ", "take  1", " take 1", "crash 1 1 ", "crash  1 1", "crash 1  1", " crash 1 1",
		"submit 1  61", "submit  1 61", "submit 1 61 ", " submit 1 61", "submit 1  ", "submit 1 6 1", "submit 1 61 61",
		"forge 1  61", "forge  1 61", "forge 1 61 ", " forge 1 61", "forge 1  ",
		// Blanks too few, or others.
		"work", "work1", "sync", "sync1", "start", "start2", "take", "take1", "lose", "copy", "copy9",
		"crash", "crash 1", "crash11", "crash1 1", "crash 11",
		"submit", "submit 1", "submit1 61", "submit1", "forge", "forge 1", "forge1 61", "forge 161",
		"work\t1", "crash 1\t1", "submit 1\t61", "work\x001", "work\u00a01",
		// A nought ahead.
		"work 00", "work 01", "sync 03", "start 000", "take 00", "take 05", "lose 0400000", "copy 010",
		"crash 01 1", "crash 1 01", "crash 00 0", "crash 0 00", "submit 01 61", "submit 00 ", "forge 02 61",
		"work 0x1", "work 0b1", "work 0o1", "take 0_1",
		// Signs.
		"work -1", "work +1", "work -0", "work +0", "take -1", "take +5", "take -0", "crash -1 1", "crash 1 -1", "crash +1 1",
		"crash 1 +1", "submit -1 61", "submit +1 61", "forge +0 ", "take -9223372036854775808",
		// No digits.
		"work ", "sync ", "start ", "take ", "lose ", "copy ", "crash ", "crash  ", "crash 1 ", "crash  1", "submit ", "submit  ",
		"submit  61", "forge ", "forge  61", "work x", "work one", "work 1x", "work x1", "work 1.0", "work 1e0", "work a", "take 1_0", "take 1,000",
		"work \xd9\xa1", "work ²", "take 0x10", "take ff", "work -", "work +", "work \x00",
		// Numbers that do not fit into 64 bits.
		"work 9223372036854775808", "take 9223372036854775808", "take 18446744073709551615", "take 18446744073709551616",
		"work 18446744073709551617", "work 18446744073709551618", "crash 9223372036854775808 1", "crash 1 9223372036854775808",
		"crash 18446744073709551617 18446744073709551617", "submit 18446744073709551617 61", "forge 9223372036854775808 ",
		"take 100000000000000000000", "take 1" + strings.Repeat("0", 400), "work " + strings.Repeat("9", 100000),
		"crash 4 9223372036854775808", "crash 9223372036854775808 400001", "submit 9223372036854775808 " + long,
		// Digits of bytes: odd, of great letters, or none.
		"submit 1 6", "submit 1 0", "submit 1 616", "submit 1 f", "forge 1 6", "forge 1 61626",
		"submit 1 6A", "submit 1 A6", "submit 1 AB", "submit 1 6161Ff", "submit 1 6161fF", "forge 1 DEAD", "forge 1 deaD",
		"submit 1 6g", "submit 1 g6", "submit 1 0x61", "submit 1 -1", "submit 1 +1", "submit 1 6\x00", "submit 1 \x00\x00", "submit 1 /0",
		"submit 1 0/", "submit 1 :0", "submit 1 0:", "submit 1 `0", "submit 1 0`", "submit 1 @0", "submit 1 é", "submit 1 ..", "submit 1 a",
		"submit 1 61\t", "forge 0 \"\"", "forge 0 61\r",
		// Something that the kind has not.
		"flow 0", "flow 1", "flow 61", "flow 1 1", "work 1 1", "work 1 0", "work 1 61", "sync 1 0", "start 1 0", "start 1 61",
		"take 1 1", "take 0 0", "take 1 61", "lose 1 0", "copy 1 0", "copy 1 1 1", "crash 1 1 1", "crash 1 1 61", "crash 0 0 0",
		"submit 1 1 61", "submit 1 0 61", "submit 1 10 61", "forge 1 0 61", "forge 1 61 0",
		// What Check would refuse, too: the form is told first.
		"work 4 ", "work 04", "work 9 9", " work 4", "take 400001 ", "take 0400001", "crash 4", "crash 4 x", "crash x 400001",
		"submit 4", "submit 4 6", "submit 4 6A", "submit 0 " + long + "6", "submit 0 " + long + "6A", "submit 0 " + long + " ", "forge 9  61",
	}
}

func TestReadForm(t *testing.T) {
	for _, line := range formless() {
		for _, ahead := range []int{0, 1, 5} {
			wantRead(t, flows(ahead)+line+"\n", nil, ahead, api.ErrForm)
			wantRead(t, flows(ahead)+line+"\nflow\n", nil, ahead, api.ErrForm)
			wantRead(t, flows(ahead)+line+"\nwork 4\n", nil, ahead, api.ErrForm)
		}
	}
}

// TestReadUnended: the last line does not end with the byte 10.
func TestReadUnended(t *testing.T) {
	for _, ahead := range []int{0, 1, 5} {
		for _, a := range goodActs() {
			line := strings.TrimSuffix(shown(a), "\n")
			wantRead(t, flows(ahead)+line, nil, ahead, api.ErrForm)
		}
		for _, line := range []string{" ", "x", "flow ", "flow\r", "work 4", "take 400001", "submit 0 " + strings.Repeat("61", api.MaxData+1)} {
			wantRead(t, flows(ahead)+line, nil, ahead, api.ErrForm)
		}
	}
}

func TestReadEmptyLine(t *testing.T) {
	wantRead(t, "\n", nil, 0, api.ErrForm)
	wantRead(t, "\n\n", nil, 0, api.ErrForm)
	wantRead(t, "\nflow\n", nil, 0, api.ErrForm)
	wantRead(t, "flow\n\n", nil, 1, api.ErrForm)
	wantRead(t, "flow\n\nflow\n", nil, 1, api.ErrForm)
	wantRead(t, "flow\r\n", nil, 0, api.ErrForm)
	wantRead(t, "flow\rflow\n", nil, 0, api.ErrForm)
}

// TestReadRefused: lines in form, of acts that may not be.
func TestReadRefused(t *testing.T) {
	long := strings.Repeat("61", api.MaxData+1)
	for _, c := range []struct {
		line string
		want api.Errno
	}{
		{"work 4", api.ErrRange},
		{"sync 10", api.ErrRange},
		{"start 256", api.ErrRange},
		{"work 4294967297", api.ErrRange},
		{"work 9223372036854775807", api.ErrRange},
		{"submit 4 61", api.ErrRange},
		{"submit 4 ", api.ErrRange},
		{"forge 5 61", api.ErrRange},
		{"take 400001", api.ErrRange},
		{"lose 4294967296", api.ErrRange},
		{"copy 9223372036854775807", api.ErrRange},
		{"crash 4 0", api.ErrRange},
		{"crash 0 400001", api.ErrRange},
		{"crash 3 9223372036854775807", api.ErrRange},
		{"crash 9223372036854775807 9223372036854775807", api.ErrRange},
		{"submit 0 " + long, api.ErrSize},
		{"forge 3 " + long, api.ErrSize},
		{"forge 3 " + strings.Repeat("00", 1<<20), api.ErrSize},
		{"submit 4 " + long, api.ErrRange},
		{"forge 9223372036854775807 " + long, api.ErrRange},
	} {
		for _, ahead := range []int{0, 1, 5, api.MaxActs - 1} {
			wantRead(t, flows(ahead)+c.line+"\n", nil, ahead, c.want)
			wantRead(t, flows(ahead)+c.line+"\nx\n", nil, ahead, c.want)
			wantRead(t, flows(ahead)+c.line+"\nflow", nil, ahead, c.want)
		}
	}
}

// TestReadOtherByte: in each place of lines each other byte, one left out, and one more.
func TestReadOtherByte(t *testing.T) {
	good := "submit 1 6a\nwork 0\ntake 10\ncrash 3 9\nforge 2 \nflow\n"
	for i := range len(good) {
		tryRead(t, good[:i]+good[i+1:])
		for b := range 256 {
			x := string([]byte{byte(b)})
			tryRead(t, good[:i]+x+good[i+1:])
			tryRead(t, good[:i]+x+good[i:])
		}
	}
	for b := range 256 {
		tryRead(t, good+string([]byte{byte(b)}))
	}
}

// tryRead: a text is read as the chapter says, and what was read is shown as it was.
func tryRead(t *testing.T, s string) {
	t.Helper()
	want, place, e := read(s)
	wantRead(t, s, want, place, e)
	if e == api.OK {
		wantShow(t, want, s, 0, api.OK)
	}
}

// drawn act that may be.
func drawn(r *rand.Rand) api.Act {
	s := sorts()[r.Intn(10)]
	a := api.Act{Kind: s.kind}
	if s.node {
		a.Node = r.Intn(4)
	}
	if s.pick {
		a.Pick = r.Intn([]int{3, 100, api.MaxTape + 1}[r.Intn(3)])
	}
	if s.text {
		b := make([]byte, r.Intn(6))
		r.Read(b)
		a.Text = string(b)
	}
	return a
}

// spoilt: a text of which some bytes are others, gone, or twice there.
func spoilt(r *rand.Rand, s string) string {
	const often = " \n0123456789abcdefx-+AF"
	for range r.Intn(3) {
		if s == "" {
			break
		}
		i := r.Intn(len(s))
		more := often[r.Intn(len(often)):][:1]
		switch r.Intn(4) {
		case 0:
			s = s[:i] + more + s[i+1:]
		case 1:
			s = s[:i] + more + s[i:]
		case 2:
			s = s[:i] + s[i+1:]
		case 3:
			s = s[:i] + s[i/2:]
		}
	}
	return s
}

func TestDrawn(t *testing.T) {
	r := rand.New(rand.NewSource(9))
	for range 20000 {
		var acts []api.Act
		var all string
		for range r.Intn(6) {
			a := drawn(r)
			acts = append(acts, a)
			all += shown(a)
		}
		wantShow(t, acts, all, 0, api.OK)
		wantRead(t, all, acts, 0, api.OK)
		tryRead(t, spoilt(r, all))
	}
}

// What holds everywhere

func TestNotChanged(t *testing.T) {
	whole := append(goodActs(), api.Act{Kind: 11}, api.Act{Kind: api.Flow, Node: 1})
	before := slices.Clone(whole)
	good := whole[: len(whole)-2 : len(whole)]
	Show(good)
	Show(whole)
	if !slices.Equal(whole, before) {
		t.Error("Show changed what it was handed")
	}
}

// TestNotShared: what is done to one answer, its spare room too, is not seen in another one.
func TestNotShared(t *testing.T) {
	s, _, _ := Show(goodActs())
	a, _, _ := Read(s)
	b, _, _ := Read(s)
	for i := range a[:cap(a)] {
		a[:cap(a)][i] = api.Act{Kind: 77, Text: "other"}
	}
	if !slices.Equal(b, goodActs()) {
		t.Error("two answers of Read share memory")
	}
	wantRead(t, s, goodActs(), 0, api.OK)
	wantShow(t, goodActs(), s, 0, api.OK)
}

// TestNothingKept: an error is not carried into the next call.
func TestNothingKept(t *testing.T) {
	for range 3 {
		wantRead(t, "flow\nwork 4\n", nil, 1, api.ErrRange)
		wantRead(t, "flow\n", flowActs(1), 0, api.OK)
		wantShow(t, []api.Act{{Kind: api.Flow}, {}}, "", 1, api.ErrKind)
		wantShow(t, flowActs(1), "flow\n", 0, api.OK)
	}
}

// TestGreat: texts far beyond all limits are answered, and soon.
func TestGreat(t *testing.T) {
	const size = 1 << 24
	wantRead(t, strings.Repeat(" ", size), nil, 0, api.ErrForm)
	wantRead(t, strings.Repeat("\n", size), nil, 0, api.ErrForm)
	wantRead(t, strings.Repeat("flow\n", size/5), nil, api.MaxActs, api.ErrSize)
	wantRead(t, "flow"+strings.Repeat(" ", size)+"\n", nil, 0, api.ErrForm)
	wantRead(t, "work "+strings.Repeat("9", size)+"\n", nil, 0, api.ErrForm)
	wantRead(t, "submit 0 "+strings.Repeat("0", size)+"\n", nil, 0, api.ErrSize)
	wantRead(t, "submit 0 "+strings.Repeat("0", size+1)+"\n", nil, 0, api.ErrForm)
}
