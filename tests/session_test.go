package tests

import (
	"encoding/hex"
	"fmt"
	"slices"
	"strconv"
	"strings"
	"testing"

	"loop.example/overfare/impl"
)

// sessionMost is how many lines of a session are done.
const sessionMost = 40

// example is the document's session, each line with its answer.
var example = [][2]string{
	{"a guard0 10.0.0.0/24 10.0.1.0/24 0-65535 pass 0.0.0.0/0 0.0.0.0/0 443-443", "ok"},
	{"b guard0 10.0.0.0/24 10.0.1.0/24 80-80 pass 0.0.0.0/0 0.0.0.0/0 443-443", "ok"},
	{"keys 3 0 kkkkkkkkkkkkkkkk mac 4 9 5", "ok"},
	{"put 10.0.0.1 10.0.1.2 80 hello", "ok"},
	{"show", "  45000000030000000146e3fa242903907a509c7cc8814d38c5f430a132a911cb96d5b65bb8cd94f3313b732d3f73cd69b87529702af0664848873b59f2c6783afacd22ec28ab0945cc\n1 under way, 0 of 1 came"},
	{"put 10.0.0.1 10.0.1.2 81 x", "ok"},
	{"put 10.9.0.1 10.0.1.2 443 plain", "ok"},
	{"put 10.9.0.1 10.0.1.2 80 none", "ok"},
	{"twice 0", "ok"},
	{"bring 0", "ok"},
	{"bring 0", "ok"},
	{"bring 0", "ok"},
	{"bring 0", "ok"},
	{"show", "came 3.1 10.0.0.1 10.0.1.2 80 hello\n0 under way, 1 of 2 came"},
	{"put 10.0.0.3 10.0.1.2 80 spoilt", "ok"},
	{"spoil 0 30 1", "ok"},
	{"bring 0", "ok"},
	{"bring 0", "no"},
	{"keys 3 0 kkkkkkkkkkkkkkkk mac 4 9 5", "no"},
	{"put 10.0.0.1 10.0.1.2", "what"},
	{"tick", "ok"},
	{"show", "came 3.1 10.0.0.1 10.0.1.2 80 hello\n0 under way, 1 of 3 came"},
	{"what", "what"},
}

// opening is lines that come to a text under way that is guarded, and rules and keys at both gates.
var opening = []string{"a guard0 10.0.0.0/24 0.0.0.0/0 0-65535 pass 0.0.0.0/0 0.0.0.0/0 443-443", "b guard0 10.0.0.0/24 0.0.0.0/0 0-65535 pass 0.0.0.0/0 0.0.0.0/0 443-443", "keys 3 0 kkkkkkkkkkkkkkkk mac 4 9 5", "put 10.0.0.1 10.0.1.2 80 hello"}

// answerTo is what a session answers to a line behind others.
func answerTo(t *testing.T, ahead []string, line string) string {
	t.Helper()
	before := impl.Session(ahead)
	text := impl.Session(append(slices.Clone(ahead), line))
	rest, ok := strings.CutPrefix(text, before)
	if !ok || !strings.HasSuffix(rest, "\n") {
		t.Fatalf("behind %q the line %q is answered by %q", before, line, rest)
	}
	return strings.TrimSuffix(rest, "\n")
}

func TestP66TheExampleAnswerForAnswer(t *testing.T) {
	var lines []string
	want := ""
	for _, c := range example {
		if answer := answerTo(t, lines, c[0]); answer != c[1] {
			t.Errorf("%q is answered by %q, not %q", c[0], answer, c[1])
		}
		lines, want = append(lines, c[0]), want+c[1]+"\n"
	}
	if text := impl.Session(lines); text != want {
		t.Errorf("the session is %q, not %q", text, want)
	}
	if text := impl.Session(nil); text != "" {
		t.Errorf("a session of no lines is %q", text)
	}
}

func TestP66LinesAndTheirAnswers(t *testing.T) {
	all8 := strings.Repeat(" pass 0.0.0.0/0 0.0.0.0/0 0-65535", 8)
	forty := strings.Repeat("x", 40)
	for _, c := range [][2]string{
		{"tick", "ok"}, {"bring 0", "ok"}, {"lose 0", "ok"}, {"twice 0", "ok"}, {"spoil 0 0 1", "ok"}, {"spoil 0 72 255", "ok"}, {"a", "ok"}, {"b", "ok"}, {"a" + all8, "ok"}, {"b" + all8, "ok"}, {"keys 4 0 kkkkkkkkkkkkkkkk m 1 1 1", "ok"}, {"keys 999 3 kkkkkkkkkkkkkkkk " + strings.Repeat("m", 64) + " 1000000 1000000 1000000", "ok"},
		{"put 0.0.0.0 255.255.255.255 0 x", "ok"}, {"put 0.0.0.0 255.255.255.255 65535 " + forty, "ok"}, {"put 10.0.0.1 1.2.3.4 443 a\tb\n\x00\xff", "ok"},

		{"", "what"}, {" ", "what"}, {"  ", "what"}, {"what", "what"}, {"TICK", "what"}, {"ticks", "what"}, {"tic", "what"}, {"inject x", "what"}, {"A", "what"}, {"tick\n", "what"}, {"\ttick", "what"}, {"bring\t0", "what"}, {"0", "what"}, {"ok", "what"},
		{" tick", "what"}, {"tick ", "what"}, {" show", "what"}, {"show ", "what"}, {"show 1", "what"}, {"tick 1", "what"}, {"bring  0", "what"}, {"bring 0 ", "what"}, {" bring 0", "what"}, {"bring 0  ", "what"},
		{"bring", "what"}, {"bring 0 0", "what"}, {"lose", "what"}, {"lose 0 0", "what"}, {"twice", "what"}, {"twice 0 0", "what"}, {"spoil", "what"}, {"spoil 0", "what"}, {"spoil 0 0", "what"}, {"spoil 0 0 1 1", "what"}, {"spoil 0  0 1", "what"},
		{"keys", "what"}, {"keys 4 0 kkkkkkkkkkkkkkkk m 1 1", "what"}, {"keys 4 0 kkkkkkkkkkkkkkkk m 1 1 1 1", "what"}, {"keys 4 0 kkkkkkkkkkkkkkkk  1 1 1", "what"}, {"keys  4 0 kkkkkkkkkkkkkkkk m 1 1 1", "what"},

		{"put", "what"}, {"put 10.0.0.1 10.0.1.2", "what"}, {"put 10.0.0.1 10.0.1.2 80", "what"}, {"put 10.0.0.1 10.0.1.2 80 ", "what"}, {"put 10.0.0.1 10.0.1.2 80 two words", "what"}, {"put 10.0.0.1  10.0.1.2 80 x", "what"}, {"put  10.0.0.1 10.0.1.2 80 x", "what"}, {" put 10.0.0.1 10.0.1.2 80 x", "what"}, {"put 10.0.0.1 10.0.1.2 80 x ", "what"}, {"put 10.0.0.1 10.0.1.2 80  x", "what"},
		{"put 10.0.0 10.0.1.2 80 x", "what"}, {"put 10.0.0.256 10.0.1.2 80 x", "what"}, {"put 10.0.0.01 10.0.1.2 80 x", "what"}, {"put 10.0.0.1 10.0.1 80 x", "what"}, {"put 10.0.0.1 x 80 x", "what"}, {"put 1 2 80 x", "what"}, {"put 10.0.0.1/32 10.0.1.2 80 x", "what"},
		{"put 10.0.0.1 10.0.1.2 65536 x", "what"}, {"put 10.0.0.1 10.0.1.2 080 x", "what"}, {"put 10.0.0.1 10.0.1.2 00 x", "what"}, {"put 10.0.0.1 10.0.1.2 -1 x", "what"}, {"put 10.0.0.1 10.0.1.2 +80 x", "what"}, {"put 10.0.0.1 10.0.1.2 x x", "what"}, {"put 10.0.0.1 10.0.1.2 999999999 x", "what"}, {"put 10.0.0.1 10.0.1.2 1000000000 x", "what"}, {"put 10.0.0.1 10.0.1.2 18446744073709551696 x", "what"}, {"put 10.0.0.1 10.0.1.2 4294967376 x", "what"},
		{"put 10.0.0.1 10.0.1.2 80 " + forty, "ok"}, {"put 10.0.0.1 10.0.1.2 80 x" + forty, "what"},

		{"bring 1", "no"}, {"bring 00", "no"}, {"bring -1", "no"}, {"bring -0", "no"}, {"bring +0", "no"}, {"bring x", "no"}, {"bring 0x0", "no"}, {"bring 999999999", "no"}, {"bring 0000000000", "no"}, {"bring 1000000000", "no"}, {"bring 18446744073709551616", "no"}, {"bring 4294967296", "no"}, {"lose 1", "no"}, {"lose 00", "no"}, {"lose x", "no"}, {"twice 1", "no"}, {"twice 00", "no"},
		{"spoil 1 0 1", "no"}, {"spoil 00 0 1", "no"}, {"spoil 0 73 1", "no"}, {"spoil 0 00 1", "no"}, {"spoil 0 -1 1", "no"}, {"spoil 0 0 0", "no"}, {"spoil 0 0 256", "no"}, {"spoil 0 0 257", "no"}, {"spoil 0 0 01", "no"}, {"spoil 0 0 x", "no"}, {"spoil x x x", "no"}, {"spoil 0 0 -1", "no"}, {"spoil 0 999999999 1", "no"}, {"spoil 0 1000000000 1", "no"},
		{"keys 3 0 kkkkkkkkkkkkkkkk mac 4 9 5", "no"}, {"keys 3 1 kkkkkkkkkkkkkkkk mac 4 9 5", "no"}, {"keys 2 0 kkkkkkkkkkkkkkkk mac 4 9 5", "no"}, {"keys 2 1 kkkkkkkkkkkkkkkk mac 4 9 5", "ok"}, {"keys 04 0 kkkkkkkkkkkkkkkk m 1 1 1", "no"}, {"keys 0 1 kkkkkkkkkkkkkkkk m 1 1 1", "no"}, {"keys 1000 1 kkkkkkkkkkkkkkkk m 1 1 1", "no"}, {"keys 4 4 kkkkkkkkkkkkkkkk m 1 1 1", "no"}, {"keys 4 00 kkkkkkkkkkkkkkkk m 1 1 1", "no"}, {"keys x y kkkkkkkkkkkkkkkk m z z z", "no"},
		{"keys 4 0 kkkkkkkkkkkkkkk m 1 1 1", "no"}, {"keys 4 0 kkkkkkkkkkkkkkkkk m 1 1 1", "no"}, {"keys 4 0 kkkkkkkkkkkkkkkk " + strings.Repeat("m", 65) + " 1 1 1", "no"}, {"keys 4 0 kkkkkkkkkkkkkkkk m 2 1 1", "no"}, {"keys 4 0 kkkkkkkkkkkkkkkk m 0 1 1", "no"}, {"keys 4 0 kkkkkkkkkkkkkkkk m 1 1000001 1", "no"}, {"keys 4 0 kkkkkkkkkkkkkkkk m 1 1 0", "no"}, {"keys 4 0 kkkkkkkkkkkkkkkk m 1 1 1000001", "no"}, {"keys 4 0 kkkkkkkkkkkkkkkk m 1 1 999999999", "no"}, {"keys 4 0 kkkkkkkkkkkkkkkk m 01 1 1", "no"},
	} {
		if answer := answerTo(t, opening, c[0]); answer != c[1] {
			t.Errorf("%q is answered by %q, not %q", c[0], answer, c[1])
		}
	}
}

// ruleLine is rules as the words of a line.
func ruleLine(word, rules string) string {
	return strings.TrimSuffix(word+" "+strings.ReplaceAll(rules, "\n", " "), " ")
}

func TestP66RulesOfASession(t *testing.T) {
	one := " pass 0.0.0.0/0 0.0.0.0/0 0-65535"
	for _, word := range []string{"a", "b"} {
		for _, c := range [][2]string{
			{word, "ok"}, {word + one, "ok"}, {word + strings.Repeat(one, 8), "ok"}, {ruleLine(word, fullCells), "ok"}, {ruleLine(word, gateRules), "ok"},
			{ruleLine(word, manyCells), "no"}, {word + strings.Repeat(one, 9), "what"}, {word + " ", "what"}, {word + one + " ", "what"}, {" " + word + one, "what"}, {word + " " + one, "what"}, {word + one + " " + one, "what"},
			{word + " pass", "what"}, {word + " pass 0.0.0.0/0", "what"}, {word + " pass 0.0.0.0/0 0.0.0.0/0", "what"}, {word + one + " pass", "what"}, {word + one + one[:len(one)-8], "what"}, {word + one + " 0", "what"},
			{word + " guard4 0.0.0.0/0 0.0.0.0/0 0-65535", "what"}, {word + " guard 0.0.0.0/0 0.0.0.0/0 0-65535", "what"}, {word + " pass 0.0.0.0 0.0.0.0/0 0-65535", "what"}, {word + " pass 1.0.0.0/0 0.0.0.0/0 0-65535", "what"}, {word + " pass 0.0.0.0/0 0.0.0.0/0 0-65536", "what"}, {word + " pass 0.0.0.0/0 0.0.0.0/0 1-0", "what"}, {word + " pass 0.0.0.0/0 0.0.0.0/0 0-065535", "what"}, {word + " Pass 0.0.0.0/0 0.0.0.0/0 0-65535", "what"}, {word + " pass 0.0.0.0/0 0.0.0.0/0 0", "what"},
			{word + " pass 0.0.0.0/0 0.0.0.0/0 0-65535\n", "what"}, {word + strings.ReplaceAll(one, " ", "\n"), "what"}, {word + one + "\n" + one[1:], "what"}, {word + one + "\npass 0.0.0.0/0 0.0.0.0/0 0-65535 pass", "what"}, {word + "\n", "what"},
			{word + word, "what"},
		} {
			if answer := answerTo(t, opening, c[0]); answer != c[1] {
				t.Errorf("%q is answered by %q, not %q", c[0], answer, c[1])
			}
		}
	}
	if answer := answerTo(t, append(slices.Clone(opening), "b", "bring 0"), "show"); answer != "0 under way, 0 of 1 came" {
		t.Errorf("without rules at B: %q", answer)
	}
	if answer := answerTo(t, append(slices.Clone(opening), "a", "bring 0"), "show"); answer != "came 3.1 10.0.0.1 10.0.1.2 80 hello\n0 under way, 1 of 1 came" {
		t.Errorf("without rules at A: %q", answer)
	}
}

func TestP66WhatIsNoPacketIsToldAheadOfALineThatIsFull(t *testing.T) {
	full := append(slices.Clone(opening), slices.Repeat([]string{"twice 0"}, 11)...)
	for _, c := range [][2]string{
		{"put 10.0.0.1 10.0.1.2 80 x", "no"}, {"put 10.0.0.1 10.0.1.2 65536 x", "what"}, {"put 10.0.0.1 10.0.1 80 x", "what"}, {"put 10.0.0.1 10.0.1.2 80 " + strings.Repeat("x", 41), "what"}, {"twice 0", "no"}, {"lose 11", "ok"}, {"lose 12", "no"},
	} {
		if answer := answerTo(t, full, c[0]); answer != c[1] {
			t.Errorf("%q is answered by %q, not %q", c[0], answer, c[1])
		}
	}
	if answer := answerTo(t, full, "show"); strings.Count(answer, "\n") != 12 || !strings.HasSuffix(answer, "\n12 under way, 0 of 1 came") {
		t.Errorf("a full line is shown by %q", answer)
	}
}

func TestP66FortyLinesAndOneMore(t *testing.T) {
	forty := slices.Repeat([]string{"tick"}, sessionMost-1)
	forty = append(forty, "show")
	want := strings.Repeat("ok\n", sessionMost-1) + "0 under way, 0 of 0 came\n"
	if text := impl.Session(forty); text != want {
		t.Errorf("a session of 40 lines is %q", text)
	}
	for _, more := range [][]string{{"tick"}, {"what"}, {"show", "show"}, slices.Repeat([]string{"tick"}, 100)} {
		if text := impl.Session(append(slices.Clone(forty), more...)); text != want {
			t.Errorf("a session of %d lines is %q", len(forty)+len(more), text)
		}
	}
	ahead := append([]string{"what", "", "put"}, slices.Repeat([]string{" "}, 50)...)
	if text := impl.Session(ahead); text != strings.Repeat("what\n", sessionMost) {
		t.Errorf("a session of lines that are none is %q", text)
	}
}

// lineFor is the line by which something happens, if a session can tell it.
func lineFor(e impl.Event) (string, bool) {
	text := strings.ReplaceAll(hex.EncodeToString([]byte(e.Packet.Text)), "0", "o")
	switch e.Kind {
	case impl.WorldPut:
		return fmt.Sprintf("put %s %s %d x%.39s", addressIn(e.Packet.From), addressIn(e.Packet.To), e.Packet.Port, text), true
	case impl.WorldBring:
		return fmt.Sprintf("bring %d", e.At), true
	case impl.WorldLose:
		return fmt.Sprintf("lose %d", e.At), true
	case impl.WorldTwice:
		return fmt.Sprintf("twice %d", e.At), true
	case impl.WorldSpoil:
		return fmt.Sprintf("spoil %d %d %d", e.At, e.Byte, e.With), true
	case impl.WorldRulesA:
		return ruleLine("a", impl.RulesPut(e.Rules)), true
	case impl.WorldRulesB:
		return ruleLine("b", impl.RulesPut(e.Rules)), true
	case impl.WorldKeys:
		s := e.Sa
		return fmt.Sprintf("keys %d %d %s %x %d %d %d", s.Spi, s.Tun, s.Key, s.Mac, s.Soft, s.Hard, s.Ticks), true
	case impl.WorldTick:
		return "tick", true
	}
	return "", false
}

func addressIn(a int) string {
	return fmt.Sprintf("%d.%d.%d.%d", a>>24&255, a>>16&255, a>>8&255, a&255)
}

// asRead is the event that is read from its line.
func asRead(e impl.Event) impl.Event {
	line, _ := lineFor(e)
	words := strings.Split(line, " ")
	switch e.Kind {
	case impl.WorldPut:
		e.Packet.Text = words[4]
	case impl.WorldKeys:
		e.Sa.Mac, e.Sa.Sent = words[4], 0
	}
	return e
}

// shown is a world as a session tells it.
func shown(w impl.World) string {
	text := ""
	for _, a := range w.Line {
		text += "  " + hex.EncodeToString([]byte(a.Text)) + "\n"
	}
	for _, s := range w.Came {
		text += "came " + strconv.Itoa(s.Spi) + "." + strconv.Itoa(s.Seq) + " " + addressIn(s.Packet.From) + " " + addressIn(s.Packet.To) + " " + strconv.Itoa(s.Packet.Port) + " " + s.Packet.Text + "\n"
	}
	return text + fmt.Sprintf("%d under way, %d of %d came\n", len(w.Line), len(w.Came), len(w.Puts))
}

func TestP66SessionsOfAllThatMayHappen(t *testing.T) {
	d := newDice(1201)
	came := 0
	for range 40 {
		w, lines, want := impl.WorldNew(), []string{}, ""
		for _, line := range opening {
			lines, want = append(lines, line), want+"ok\n"
		}
		w = done(t, w, rulesA(reads("guard0 10.0.0.0/24 0.0.0.0/0 0-65535\npass 0.0.0.0/0 0.0.0.0/0 443-443\n")), rulesB(reads("guard0 10.0.0.0/24 0.0.0.0/0 0-65535\npass 0.0.0.0/0 0.0.0.0/0 443-443\n")), give(keysAt(3, 0, 0)), put(impl.Packet{From: low + 1, To: low + 258, Port: 80, Text: "hello"}))
		for len(lines) < sessionMost {
			e := d.event(w)
			line, can := lineFor(e)
			if !can {
				lines, want = append(lines, "show"), want+shown(w)
				continue
			}
			e = asRead(e)
			next, ok := happened(w, e)
			answer := map[bool]string{true: "ok\n", false: "no\n"}[ok]
			if e.Kind == impl.WorldPut && !packetFine(e.Packet) {
				answer = "what\n"
			}
			lines, want, w = append(lines, line), want+answer, next
		}
		if text := impl.Session(lines); text != want {
			t.Fatalf("the session %q is %q, not %q", lines, text, want)
		}
		came += len(w.Came)
	}
	if came < 30 {
		t.Errorf("only %d came", came)
	}
}

func TestSessionsChangeNoArgument(t *testing.T) {
	var list []string
	for _, c := range example {
		list = append(list, c[0])
	}
	lines := roomy(list)
	leavesAlone(t, "Session", many(lines), func() []any { return many(impl.Session(lines)) })
	first, second := impl.Session(lines), impl.Session(lines)
	if first != second {
		t.Errorf("a session is %q, and again %q", first, second)
	}
	long := roomy(slices.Repeat(list, 5))
	leavesAlone(t, "Session of too many", many(long), func() []any { return many(impl.Session(long)) })
}
