package tests

import (
	"math"
	"slices"
	"strings"
	"sync"
	"testing"
	"testing/synctest"

	"loop.example/overfare/impl"
)

// The limits, told here once more.
const (
	lineMostly = 12
	putsMost   = 40
	playsMost  = 60
	airsMost   = 141
)

// worldRules guards by two tunnels, and passes some.
const worldRules = "guard0 10.0.0.0/24 0.0.0.0/0 0-100\nguard1 0.0.0.0/0 10.0.0.0/24 0-100\npass 0.0.0.0/0 0.0.0.0/0 0-443\n"

var (
	byTunnel0 = impl.Packet{From: low + 1, To: 5, Port: 80, Text: "zero"}
	byTunnel1 = impl.Packet{From: 5, To: low + 1, Port: 80, Text: "one"}
	byNone    = impl.Packet{From: 5, To: 6, Port: 443, Text: "plain"}
	noWhere   = impl.Packet{From: 5, To: 6, Port: 444, Text: "drop"}
)

func put(p impl.Packet) impl.Event       { return impl.Event{Kind: 1, Packet: p} }
func bring(at int) impl.Event            { return impl.Event{Kind: 2, At: at} }
func lose(at int) impl.Event             { return impl.Event{Kind: 3, At: at} }
func twice(at int) impl.Event            { return impl.Event{Kind: 4, At: at} }
func spoil(at, b, with int) impl.Event   { return impl.Event{Kind: 5, At: at, Byte: b, With: with} }
func inject(text string) impl.Event      { return impl.Event{Kind: 6, Text: text} }
func rulesA(list []impl.Rule) impl.Event { return impl.Event{Kind: 7, Rules: list} }
func rulesB(list []impl.Rule) impl.Event { return impl.Event{Kind: 8, Rules: list} }
func give(s impl.Sa) impl.Event          { return impl.Event{Kind: 9, Sa: s} }

var tick = impl.Event{Kind: 10}

// done is a world behind events, each of which is known to be possible.
func done(t *testing.T, w impl.World, events ...impl.Event) impl.World {
	t.Helper()
	for i, e := range events {
		next, ok := impl.WorldDo(w, e)
		if !ok {
			t.Fatalf("event %d, %#v, cannot be", i, e)
		}
		w = next
	}
	return w
}

// plainWorld is a world with rules at both gates, and keys 3 for tunnel 0 and 5 for tunnel 1.
func plainWorld(t *testing.T) impl.World {
	t.Helper()
	return done(t, impl.WorldNew(), rulesA(reads(worldRules)), rulesB(reads(worldRules)), give(keysAt(3, 0, 0)), give(keysAt(5, 1, 0)))
}

func worldWith(t *testing.T, change func(*impl.World)) impl.World {
	t.Helper()
	w := plainWorld(t)
	change(&w)
	return w
}

// isForged and happened tell the chapter again.
func isForged(w impl.World, a impl.Air) bool {
	if a.Own || !strings.HasPrefix(a.Text, "E") {
		return false
	}
	spi, _, ok := headed(a.Text[1:])
	at := placeBy(w.B.Ins, theSpi, spi)
	end := len(a.Text) - 16
	return ok && at >= 0 && a.Text[end:] == libraryTag(w.B.Ins[at].Mac, a.Text[1:end])
}

func noted(g impl.Gate, p impl.Packet, text string) impl.Sent {
	spi, seq, _ := headed(text[1:])
	return impl.Sent{Packet: p, Tun: doesWith(g.Rules, callFor(p))[1], Spi: spi, Seq: seq}
}

func happened(w impl.World, e impl.Event) (impl.World, bool) {
	was := w
	w.Line, w.Puts, w.Came = slices.Clone(w.Line), slices.Clone(w.Puts), slices.Clone(w.Came)
	here := e.At >= 0 && e.At < len(w.Line)
	room := len(w.Line) < lineMostly
	switch {
	case e.Kind == 1 && room && len(w.Puts) < putsMost && packetFine(e.Packet):
		next, text, code := outOf(w.A, e.Packet)
		if text != "" {
			w.Line = append(w.Line, impl.Air{Text: text, Own: true})
		}
		if code == impl.GateGuard {
			w.Puts = append(w.Puts, noted(w.A, e.Packet, text))
		}
		w.A = next
	case e.Kind == 2 && here && !isForged(w, w.Line[e.At]) && len(w.Came) < putsMost:
		next, p, code := inOf(w.B, w.Line[e.At].Text)
		if code == impl.GateGuard {
			w.Came = append(w.Came, noted(w.B, p, w.Line[e.At].Text))
		}
		w.B = next
		w.Line = slices.Delete(w.Line, e.At, e.At+1)
	case e.Kind == 3 && here:
		w.Line = slices.Delete(w.Line, e.At, e.At+1)
	case e.Kind == 4 && here && room:
		w.Line = append(w.Line, w.Line[e.At])
	case e.Kind == 5 && here && e.Byte >= 0 && e.Byte < len(w.Line[e.At].Text) && e.With >= 1 && e.With <= 255:
		w.Line[e.At] = impl.Air{Text: turnedAt(w.Line[e.At].Text, e.Byte, byte(e.With))}
	case e.Kind == 6 && room && len(e.Text) <= airsMost:
		w.Line = append(w.Line, impl.Air{Text: e.Text})
	case e.Kind == 7 && impl.RulesOk(e.Rules) && len(cellsOf(e.Rules)) <= impl.CellMax:
		w.A.Rules, w.A.Cache = e.Rules, impl.Cache{Size: seensMost}
	case e.Kind == 8 && impl.RulesOk(e.Rules) && len(cellsOf(e.Rules)) <= impl.CellMax:
		w.B.Rules, w.B.Cache = e.Rules, impl.Cache{Size: seensMost}
	case e.Kind == 9:
		return given(w, e.Sa)
	case e.Kind == 10:
		w.A, w.B = ticked(w.A), ticked(w.B)
	default:
		return was, false
	}
	return w, true
}

func given(w impl.World, s impl.Sa) (impl.World, bool) {
	s.Since = w.A.Now
	at := placeBy(w.A.Outs, theTun, s.Tun)
	known := placeBy(w.A.Outs, theSpi, s.Spi) >= 0 || placeBy(w.B.Ins, theSpi, s.Spi) >= 0
	for _, x := range w.Puts {
		known = known || x.Spi == s.Spi
	}
	if known || !impl.SaOk(s) || s.Sent != 0 || len(s.Win.Seen) != 0 || at >= 0 && w.A.Outs[at].Spi >= s.Spi || len(w.B.Ins) >= insMost {
		return w, false
	}
	w.A.Outs = append(slices.DeleteFunc(slices.Clone(w.A.Outs), func(o impl.Sa) bool { return o.Tun == s.Tun }), s)
	slices.SortFunc(w.A.Outs, func(a, b impl.Sa) int { return a.Tun - b.Tun })
	w.B.Ins = append(slices.Clone(w.B.Ins), s)
	slices.SortFunc(w.B.Ins, func(a, b impl.Sa) int { return a.Spi - b.Spi })
	return w, true
}

// checkDo holds WorldDo against what is told again, and against what the promises say of all that happens.
func checkDo(t *testing.T, w impl.World, e impl.Event) (impl.World, bool) {
	t.Helper()
	next, ok := impl.WorldDo(w, e)
	want, wantOk := happened(w, e)
	if ok != wantOk || !like(next, want) {
		t.Fatalf("WorldDo(%#v, %#v) is %#v, %v, not %#v, %v", w, e, next, ok, want, wantOk)
	}
	if !impl.WorldOk(next) || len(next.Puts) < len(w.Puts) || len(next.Came) < len(w.Came) || !slices.Equal(next.Puts[:len(w.Puts)], w.Puts) || !slices.Equal(next.Came[:len(w.Came)], w.Came) {
		t.Errorf("WorldDo(%#v, %#v) leaves %#v", w, e, next)
	}
	if !ok && !like(next, w) {
		t.Errorf("what cannot be, %#v, changes %#v to %#v", e, w, next)
	}
	if e.Kind >= 3 && e.Kind <= 6 && (!like(next.A, w.A) || !like(next.B, w.B) || !slices.Equal(next.Puts, w.Puts) || !slices.Equal(next.Came, w.Came)) {
		t.Errorf("%#v changes %#v to %#v", e, w, next)
	}
	return next, ok
}

// isSafe says whether each of Came is of just one of Puts, and none is there twice.
func isSafe(w impl.World) bool {
	frames := map[[2]int]int{}
	for _, x := range w.Came {
		of := 0
		for _, y := range w.Puts {
			if x == y {
				of++
			}
		}
		frames[[2]int{x.Spi, x.Seq}]++
		if of != 1 || frames[[2]int{x.Spi, x.Seq}] > 1 {
			return false
		}
	}
	return true
}

func numbersDiffer(list []impl.Sent) bool {
	frames := map[[2]int]int{}
	for _, x := range list {
		frames[[2]int{x.Spi, x.Seq}]++
	}
	return len(frames) == len(list)
}

var rulesPool = []string{
	worldRules, worldRules, worldRules, "", "guard0 0.0.0.0/0 0.0.0.0/0 0-65535\n", "guard1 0.0.0.0/0 0.0.0.0/0 0-65535\n", "pass 0.0.0.0/0 0.0.0.0/0 0-65535\n",
	"guard1 10.0.0.0/24 0.0.0.0/0 0-100\nguard0 0.0.0.0/0 0.0.0.0/0 0-100\n", "guard0 10.0.0.0/24 0.0.0.0/0 0-79\nguard3 10.0.0.0/24 0.0.0.0/0 80-80\n", manyCells,
}

func (d *dice) packet() impl.Packet {
	p := []impl.Packet{byTunnel0, byTunnel0, byTunnel1, byTunnel1, byNone, noWhere, {From: low + d.below(300), To: low + d.below(300), Port: d.below(120)}, {Port: -1}}[d.below(8)]
	p.Text = d.bytes(d.below(41))
	return p
}

// injected is a text that somebody puts in: anything, something that was seen on the line, or what only the keys can make.
func (d *dice) injected(w impl.World) string {
	switch d.below(6) {
	case 0:
		return d.bytes(d.below(150))
	case 1:
		return "P" + packetBytes(d.packet())
	case 2:
		if len(w.Line) > 0 {
			return w.Line[d.below(len(w.Line))].Text
		}
	case 3:
		if len(w.B.Ins) > 0 {
			s := w.B.Ins[d.below(len(w.B.Ins))]
			return "E" + frameNumbered(s, 1+d.below(12), filled(packetBytes(byTunnel0)))
		}
	case 4:
		s := keysAt(1+d.below(9), 0, 0)
		s.Mac = "another"
		return "E" + frameNumbered(s, 1+d.below(12), filled(packetBytes(byTunnel0)))
	}
	return "E" + d.bytes([]int{0, 55, 56, 72, 140}[d.below(5)])
}

// event is anything that may happen, or may not.
func (d *dice) event(w impl.World) impl.Event {
	at := d.below(len(w.Line)+3) - 1
	if d.below(4) > 0 && len(w.Line) > 0 {
		at = d.below(len(w.Line))
	}
	kinds := []int{0, 1, 1, 1, 1, 1, 1, 2, 2, 2, 2, 2, 3, 4, 4, 5, 6, 6, 7, 8, 9, 9, 10, 11}
	e := impl.Event{Kind: kinds[d.below(len(kinds))], Packet: d.packet(), At: at, Byte: d.below(80) - 2, With: d.below(260) - 1, Text: d.injected(w), Rules: reads(rulesPool[d.below(len(rulesPool))])}
	e.Sa = keysAt(1+d.below(40), d.below(5), d.below(50))
	e.Sa.Hard, e.Sa.Ticks, e.Sa.Mac = 4+d.below(6), 1+d.below(6), d.bytes(3)
	if d.below(8) == 0 {
		e.Sa.Sent = 1
	}
	return e
}

func TestP58AndOthersBehindAllThatMayHappen(t *testing.T) {
	d := newDice(1101)
	puts, came, refused := 0, 0, 0
	for round := range 60 {
		w := impl.WorldNew()
		if round%4 > 0 {
			w = plainWorld(t)
		}
		for range 80 {
			next, ok := checkDo(t, w, d.event(w))
			if !ok {
				refused++
			}
			if !impl.WorldSafe(next) || !isSafe(next) || !numbersDiffer(next.Puts) {
				t.Fatalf("the world is not safe: %#v", next)
			}
			w = next
		}
		puts, came = puts+len(w.Puts), came+len(w.Came)
	}
	if puts < 200 || came < 60 || refused < 200 {
		t.Errorf("%d were guarded, %d came, %d could not be", puts, came, refused)
	}
}

func TestP58EachFrameComesOnce(t *testing.T) {
	w := done(t, plainWorld(t), put(byTunnel0), twice(0), twice(1), put(byTunnel1), put(byTunnel0))
	for _, at := range []int{4, 0, 3, 1, 0} {
		if at = min(at, len(w.Line)-1); at >= 0 {
			w = done(t, w, bring(at))
		}
	}
	want := []impl.Sent{{Packet: byTunnel0, Tun: 0, Spi: 3, Seq: 2}, {Packet: byTunnel0, Tun: 0, Spi: 3, Seq: 1}, {Packet: byTunnel1, Tun: 1, Spi: 5, Seq: 1}}
	if len(w.Line) != 0 || !slices.Equal(w.Came, want) || len(w.Puts) != 3 || !impl.WorldSafe(w) {
		t.Errorf("%#v came", w.Came)
	}
}

func TestP58RulesThatChangeWhileAFrameIsUnderWay(t *testing.T) {
	w := done(t, plainWorld(t), put(byTunnel0), rulesA(nil))
	if w = done(t, w, bring(0)); len(w.Came) != 1 {
		t.Errorf("behind other rules at A there came %#v", w.Came)
	}
	for _, text := range []string{"", "pass 0.0.0.0/0 0.0.0.0/0 0-65535\n", "guard1 0.0.0.0/0 0.0.0.0/0 0-65535\n", "drop 10.0.0.1/32 0.0.0.0/0 80-80\n" + worldRules} {
		w := done(t, plainWorld(t), put(byTunnel0), twice(0), rulesB(reads(text)), bring(0))
		if len(w.Came) != 0 || !slices.Equal(w.B.Ins[0].Win.Seen, []int{1}) {
			t.Errorf("by %q there came %#v, and %#v is seen", text, w.Came, w.B.Ins[0].Win)
		}
		if w = done(t, w, rulesB(reads(worldRules)), bring(0)); len(w.Came) != 0 || len(w.Line) != 0 {
			t.Errorf("what was opened, and not let in, came again: %#v", w.Came)
		}
	}
}

func TestP58KeysThatAreGivenAnew(t *testing.T) {
	w := done(t, plainWorld(t), put(byTunnel0), tick, give(keysAt(9, 0, 0)), put(byTunnel0))
	if w.A.Outs[0].Spi != 9 || w.A.Outs[0].Since != 1 || len(w.B.Ins) != 3 || w.B.Ins[2].Since != 1 {
		t.Errorf("the keys are %#v and %#v", w.A.Outs, w.B.Ins)
	}
	w = done(t, w, bring(1), bring(0))
	want := []impl.Sent{{Packet: byTunnel0, Spi: 9, Seq: 1}, {Packet: byTunnel0, Spi: 3, Seq: 1}}
	if !slices.Equal(w.Came, want) || !impl.WorldSafe(w) {
		t.Errorf("%#v came", w.Came)
	}
	old := done(t, plainWorld(t), put(byTunnel0), tick, tick, tick, tick, tick, tick, tick, tick, tick)
	if w := done(t, old, bring(0)); len(w.Came) != 1 {
		t.Errorf("just in time there came %#v", w.Came)
	}
	if w := done(t, old, tick, bring(0)); len(w.Came) != 0 || len(w.B.Ins) != 0 || len(w.Line) != 0 {
		t.Errorf("too late there came %#v by %#v", w.Came, w.B.Ins)
	}
}

func TestP59NoTwoNumbersAreTheSame(t *testing.T) {
	w := plainWorld(t)
	for i := range 9 {
		w = done(t, w, put(byTunnel0), lose(0))
		if x := w.Puts[len(w.Puts)-1]; x.Spi != 3 || x.Seq != i+1 {
			t.Errorf("frame %d is %#v", i, x)
		}
	}
	if w = done(t, w, put(byTunnel0)); len(w.Puts) != 9 || len(w.Line) != 0 {
		t.Errorf("behind the last number there is %#v", w.Puts)
	}
	refuse := func(w impl.World, s impl.Sa) {
		t.Helper()
		if _, ok := checkDo(t, w, give(s)); ok {
			t.Errorf("keys %d of tunnel %d are given again", s.Spi, s.Tun)
		}
	}
	refuse(w, keysAt(3, 0, 0))
	refuse(w, keysAt(3, 2, 0))
	refuse(w, keysAt(5, 2, 0))
	refuse(w, keysAt(2, 0, 0))
	w = done(t, w, give(keysAt(4, 0, 0)), put(byTunnel0))
	for range 10 {
		w = done(t, w, tick)
	}
	if len(w.B.Ins) != 0 {
		t.Errorf("there are still %#v", w.B.Ins)
	}
	refuse(w, keysAt(3, 2, 0)) // in Puts alone
	refuse(w, keysAt(5, 2, 0)) // in Outs alone
	refuse(w, keysAt(4, 3, 0)) // in both
	w = done(t, w, give(keysAt(6, 0, 0)))
	refuse(w, keysAt(4, 3, 0)) // in Puts alone
	refuse(w, keysAt(6, 3, 0))
	w = done(t, w, give(keysAt(7, 0, 0)))
	refuse(w, keysAt(6, 3, 0)) // in Ins of B alone
	w = done(t, w, give(keysAt(2, 3, 0)), put(byTunnel0))
	if !numbersDiffer(w.Puts) || len(w.Puts) != 11 {
		t.Errorf("%#v", w.Puts)
	}
}

func TestP59KeysThatAreNotGiven(t *testing.T) {
	d := newDice(1102)
	w := plainWorld(t)
	for _, s := range append(noSas(d), changed(keysAt(9, 0, 0), func(s *impl.Sa) { s.Sent = 1 }), changed(keysAt(9, 0, 0), func(s *impl.Sa) { s.Win = window(1) })) {
		_, ok := checkDo(t, w, give(s))
		if want := impl.SaOk(changed(s, func(s *impl.Sa) { s.Since = 0 })) && s.Sent == 0 && len(s.Win.Seen) == 0; ok != want {
			t.Errorf("WorldKeys of %#v is %v", s, ok)
		}
	}
	for _, since := range []int{0, 1, 500, -1, numbers + 1, math.MinInt, math.MaxInt} {
		next, ok := checkDo(t, w, give(keysAt(9, 2, since)))
		if !ok || next.A.Outs[2].Since != 0 || next.B.Ins[2].Since != 0 {
			t.Errorf("keys since %d are %#v, %v", since, next.A.Outs, ok)
		}
	}
	full := worldWith(t, func(w *impl.World) { w.B.Ins = newDice(1103).keysRow(insMost, 0) })
	if _, ok := checkDo(t, full, give(keysAt(999, 0, 0))); ok {
		t.Error("a seventh of keys to take was given")
	}
}

// cameWorld is a world in which two packets came.
func cameWorld(t *testing.T) impl.World {
	t.Helper()
	return done(t, plainWorld(t), put(byTunnel0), put(byTunnel1), put(byTunnel0), bring(0), bring(0))
}

func TestP60WhatCameWronglyIsFound(t *testing.T) {
	w := cameWorld(t)
	if !impl.WorldSafe(w) || !impl.WorldSafe(impl.WorldNew()) {
		t.Fatal("a world is not safe")
	}
	unsafe := func(what string, change func(*impl.World)) {
		t.Helper()
		w := cameWorld(t)
		change(&w)
		if impl.WorldSafe(w) {
			t.Errorf("with %s a world is safe", what)
		}
	}
	unsafe("one twice", func(w *impl.World) { w.Came = append(w.Came, w.Came[0]) })
	unsafe("the last twice", func(w *impl.World) { w.Came = append(w.Came, w.Came[1]) })
	unsafe("another text", func(w *impl.World) { w.Came[0].Packet.Text += "x" })
	unsafe("another sender", func(w *impl.World) { w.Came[1].Packet.From++ })
	unsafe("another taker", func(w *impl.World) { w.Came[1].Packet.To++ })
	unsafe("another port", func(w *impl.World) { w.Came[1].Packet.Port++ })
	unsafe("another tunnel", func(w *impl.World) { w.Came[0].Tun = 1 })
	unsafe("other keys", func(w *impl.World) { w.Came[0].Spi = 5 })
	unsafe("another number", func(w *impl.World) { w.Came[0].Seq = 7 })
	unsafe("nothing that was put", func(w *impl.World) { w.Puts = nil })
	unsafe("one that was not put", func(w *impl.World) { w.Puts = w.Puts[1:] })
	unsafe("one frame as two packets", func(w *impl.World) {
		w.Puts[1] = w.Puts[0]
		w.Puts[1].Packet.Text = "other"
		w.Came = w.Puts[:2]
	})
	unsafe("a gate that is none", func(w *impl.World) { w.A.Now = 1 })
	other := cameWorld(t)
	other.Puts[0].Packet.Text, other.Came[0].Packet.Text = "other", "other"
	if !impl.WorldSafe(other) {
		t.Error("another text that was put is not safe")
	}
	third := cameWorld(t)
	third.Came = []impl.Sent{third.Puts[2], third.Puts[1], third.Puts[0]}
	if !impl.WorldSafe(third) {
		t.Error("all in another order are not safe")
	}
}

func TestWorldOk(t *testing.T) {
	d := newDice(1104)
	for i, w := range someWorlds(t) {
		if !impl.WorldOk(w) {
			t.Errorf("world %d is not ok", i)
		}
	}
	for i, w := range noWorlds(t, d) {
		if impl.WorldOk(w) || impl.WorldSafe(w) {
			t.Errorf("world %d is ok", i)
		}
		for kind := -1; kind <= 12; kind++ {
			e := impl.Event{Kind: kind, Packet: byTunnel0, With: 1, Text: "P", Rules: reads(worldRules), Sa: keysAt(9, 3, 0)}
			if next, ok := impl.WorldDo(w, e); ok || !like(next, impl.World{}) {
				t.Errorf("WorldDo of world %d, %d, is %#v, %v", i, kind, next, ok)
			}
		}
	}
}

func sents(n int) []impl.Sent {
	return slices.Repeat([]impl.Sent{{Packet: byTunnel0, Spi: 900, Seq: 1}}, n)
}

func someWorlds(t *testing.T) []impl.World {
	list := []impl.World{impl.WorldNew(), plainWorld(t), cameWorld(t)}
	with := func(change func(*impl.World)) {
		list = append(list, worldWith(t, change))
	}
	with(func(w *impl.World) { w.Line = slices.Repeat([]impl.Air{{Text: "P"}}, lineMostly) })
	with(func(w *impl.World) { w.Line = []impl.Air{{}, {Text: strings.Repeat("E", airsMost), Own: true}} })
	with(func(w *impl.World) { w.Puts, w.Came = sents(putsMost), sents(putsMost) })
	with(func(w *impl.World) { w.Puts = []impl.Sent{{Packet: impl.Packet{From: -1}, Tun: -1, Spi: -1}} })
	with(func(w *impl.World) { w.A, w.B = plainGate(), plainGate() })
	for _, now := range []int{0, 1, numbers - 1, numbers} {
		with(func(w *impl.World) { w.A, w.B = impl.GateNew(), impl.GateNew(); w.A.Now, w.B.Now = now, now })
	}
	return list
}

func noWorlds(t *testing.T, d *dice) []impl.World {
	list := []impl.World{{}}
	with := func(change func(*impl.World)) {
		list = append(list, worldWith(t, change))
	}
	for _, g := range noGates(d)[:40] {
		with(func(w *impl.World) { w.A, w.B = g, plainGate() })
		with(func(w *impl.World) { w.A, w.B = plainGate(), g })
	}
	with(func(w *impl.World) { w.A.Now = 1 })
	with(func(w *impl.World) { w.B.Now = 1 })
	with(func(w *impl.World) { w.A.Now, w.B.Now = numbers+1, numbers+1 })
	with(func(w *impl.World) { w.Line = slices.Repeat([]impl.Air{{Text: "P"}}, lineMostly+1) })
	with(func(w *impl.World) { w.Line = []impl.Air{{}, {Text: strings.Repeat("E", airsMost+1), Own: true}} })
	with(func(w *impl.World) { w.Puts = sents(putsMost + 1) })
	with(func(w *impl.World) { w.Came = sents(putsMost + 1) })
	return list
}

func TestP61KindsThatAreNone(t *testing.T) {
	for _, w := range someWorlds(t) {
		for _, kind := range []int{0, 11, -1, 12, math.MinInt, math.MaxInt} {
			e := impl.Event{Kind: kind, Packet: byTunnel0, With: 1, Text: "P", Rules: reads(worldRules), Sa: keysAt(9, 3, 0)}
			if _, ok := checkDo(t, w, e); ok {
				t.Errorf("the kind %d can be", kind)
			}
		}
	}
	for i, kind := range []int{impl.WorldPut, impl.WorldBring, impl.WorldLose, impl.WorldTwice, impl.WorldSpoil, impl.WorldInject, impl.WorldRulesA, impl.WorldRulesB, impl.WorldKeys, impl.WorldTick} {
		if kind != i+1 {
			t.Errorf("the kind %d is %d", i+1, kind)
		}
	}
}

func TestP61EverythingInEveryWorld(t *testing.T) {
	d := newDice(1105)
	for _, w := range someWorlds(t) {
		for range 60 {
			checkDo(t, w, d.event(w))
		}
		for _, list := range append(noRules()[:20], reads(manyCells), reads(fullCells), nil) {
			checkDo(t, w, rulesA(list))
			checkDo(t, w, rulesB(list))
		}
		next, ok := checkDo(t, w, tick)
		if want := min(w.A.Now+1, numbers); !ok || next.A.Now != want || next.B.Now != want {
			t.Errorf("a tick from %d is %d, %d, %v", w.A.Now, next.A.Now, next.B.Now, ok)
		}
	}
}

func TestP61LimitsOfPutting(t *testing.T) {
	eleven := slices.Repeat([]impl.Air{{Text: "P"}}, lineMostly-1)
	for _, c := range []struct {
		line, puts int
		packet     impl.Packet
		ok         bool
	}{
		{11, 0, byTunnel0, true}, {12, 0, byTunnel0, false}, {12, 0, noWhere, false}, {0, 39, byTunnel0, true}, {0, 40, byTunnel0, false}, {0, 40, byNone, false}, {0, 39, noWhere, true}, {11, 39, byNone, true},
		{0, 0, impl.Packet{From: -1}, false}, {0, 0, impl.Packet{To: all}, false}, {0, 0, impl.Packet{Port: 65536}, false}, {0, 0, changedText(byTunnel0, 40), true}, {0, 0, changedText(byTunnel0, 41), false},
	} {
		w := worldWith(t, func(w *impl.World) { w.Line, w.Puts = slices.Repeat(eleven[:1], c.line), sents(c.puts) })
		if _, ok := checkDo(t, w, put(c.packet)); ok != c.ok {
			t.Errorf("with %d under way and %d guarded WorldPut of %#v is %v", c.line, c.puts, c.packet, ok)
		}
	}
	silent := done(t, plainWorld(t), put(noWhere))
	if len(silent.Line) != 0 || len(silent.Puts) != 0 || len(silent.A.Cache.Seens) != 1 {
		t.Errorf("behind a packet that is dropped: %#v", silent)
	}
	unkeyed := done(t, worldWith(t, func(w *impl.World) { w.A.Outs = nil }), put(byTunnel0), put(byNone))
	if len(unkeyed.Line) != 1 || len(unkeyed.Puts) != 0 || !unkeyed.Line[0].Own {
		t.Errorf("without keys: %#v", unkeyed)
	}
}

func TestP61PlacesOfTheLine(t *testing.T) {
	for size := range 4 {
		w := plainWorld(t)
		for i := range size {
			w = done(t, w, inject("P"+strings.Repeat("x", i)))
		}
		for _, at := range []int{math.MinInt, -2, -1, 0, 1, size - 1, size, size + 1, math.MaxInt} {
			want := at >= 0 && at < size
			for _, e := range []impl.Event{bring(at), lose(at), twice(at), spoil(at, 0, 1)} {
				if _, ok := checkDo(t, w, e); ok != want {
					t.Errorf("with %d under way %#v is %v", size, e, ok)
				}
			}
		}
	}
}

func TestP61LimitsOfBringing(t *testing.T) {
	frame := done(t, plainWorld(t), put(byTunnel0)).Line
	for _, c := range []struct {
		came int
		line []impl.Air
		ok   bool
	}{
		{39, frame, true}, {40, frame, false}, {40, []impl.Air{{Text: "P"}}, false}, {39, []impl.Air{{Text: ""}}, true}, {0, frame, true},
	} {
		w := worldWith(t, func(w *impl.World) { w.Came, w.Line = sents(c.came), c.line })
		if _, ok := checkDo(t, w, bring(0)); ok != c.ok {
			t.Errorf("with %d that came WorldBring is %v", c.came, ok)
		}
	}
}

func TestP62LimitsOfWhatIsDoneToTheLine(t *testing.T) {
	for _, c := range []struct {
		line, size int
		ok         bool
	}{
		{11, 1, true}, {12, 1, false}, {0, 0, true}, {0, airsMost, true}, {0, airsMost + 1, false}, {0, 1000, false}, {11, airsMost, true}, {12, airsMost + 1, false},
	} {
		w := worldWith(t, func(w *impl.World) { w.Line = slices.Repeat([]impl.Air{{Text: "E", Own: true}}, c.line) })
		text := strings.Repeat("P", c.size)
		next, ok := checkDo(t, w, inject(text))
		if ok != c.ok || ok && next.Line[c.line] != (impl.Air{Text: text}) {
			t.Errorf("with %d under way WorldInject of %d bytes is %v", c.line, c.size, ok)
		}
		if c.line > 0 {
			next, ok := checkDo(t, w, twice(c.line-1))
			if ok != (c.line < lineMostly) || ok && next.Line[c.line] != (impl.Air{Text: "E", Own: true}) {
				t.Errorf("with %d under way WorldTwice is %v", c.line, ok)
			}
		}
	}
	spoilt := worldWith(t, func(w *impl.World) { w.Line = []impl.Air{{Text: "none", Own: true}, {Text: "text", Own: true}, {}} })
	for _, c := range []struct {
		at, place, with int
		text            string
	}{
		{1, 0, 1, "uext"}, {1, 3, 255, "tex\x8b"}, {1, 3, 1, "texu"}, {0, 0, 2, "lone"},
		{1, -1, 1, ""}, {1, 4, 1, ""}, {1, 5, 1, ""}, {1, 0, 0, ""}, {1, 0, 256, ""}, {1, 0, 257, ""}, {1, 0, -1, ""}, {2, 0, 1, ""}, {3, 0, 1, ""}, {1, math.MaxInt, 1, ""}, {1, math.MinInt, 1, ""}, {1, 0, math.MaxInt, ""}, {1, 0, math.MinInt, ""},
	} {
		next, ok := checkDo(t, spoilt, spoil(c.at, c.place, c.with))
		if ok != (c.text != "") || ok && next.Line[c.at] != (impl.Air{Text: c.text}) {
			t.Errorf("WorldSpoil of %d, %d, %d is %#v, %v", c.at, c.place, c.with, next.Line, ok)
		}
	}
}

func TestP63WhatIsGuardedAndBroughtComes(t *testing.T) {
	for _, c := range []struct {
		what  string
		rules string
		comes bool
	}{
		{"the same rules", worldRules, true}, {"rules that guard all", "guard0 0.0.0.0/0 0.0.0.0/0 0-65535\n", true}, {"rules that guard just it", "guard0 10.0.0.1/32 0.0.0.5/32 80-80\n", true},
		{"no rules", "", false}, {"another tunnel", "guard1 0.0.0.0/0 0.0.0.0/0 0-65535\n", false}, {"pass", "pass 0.0.0.0/0 0.0.0.0/0 0-65535\n", false}, {"drop ahead", "drop 0.0.0.0/0 0.0.0.0/0 80-80\n" + worldRules, false}, {"another port", "guard0 0.0.0.0/0 0.0.0.0/0 81-65535\n", false},
	} {
		w := done(t, plainWorld(t), rulesB(reads(c.rules)), put(byTunnel0))
		next, ok := checkDo(t, w, bring(0))
		want := []impl.Sent{{Packet: byTunnel0, Spi: 3, Seq: 1}}
		if !ok || len(next.Line) != 0 || c.comes != slices.Equal(next.Came, want) || !c.comes && len(next.Came) != 0 {
			t.Errorf("%s: %#v came", c.what, next.Came)
		}
		unkeyed := w
		unkeyed.B.Ins = w.B.Ins[1:]
		if next, ok := checkDo(t, unkeyed, bring(0)); !ok || len(next.Came) != 0 || len(next.Line) != 0 {
			t.Errorf("%s, without keys: %#v came, %v", c.what, next.Came, ok)
		}
	}
	w := done(t, plainWorld(t), put(byNone), bring(0))
	if len(w.Came) != 0 || len(w.Puts) != 0 || len(w.B.Cache.Seens) != 1 {
		t.Errorf("what only passes: %#v", w)
	}
}

func TestP64WhatWasSpoiltNeverComes(t *testing.T) {
	w := done(t, plainWorld(t), put(byTunnel0), put(byNone))
	for line, text := range []string{w.Line[0].Text, w.Line[1].Text} {
		for place := range text {
			for _, with := range []int{1, 0x15, 0x80, 255} {
				next := done(t, w, spoil(line, place, with))
				brought, ok := checkDo(t, next, bring(line))
				if len(brought.Came) != 0 || !ok || len(brought.Line) != 1 {
					t.Errorf("with byte %d turned by %d there came %#v, %v", place, with, brought.Came, ok)
				}
			}
		}
	}
	for _, place := range []int{0, 1, 30, len(w.Line[0].Text) - 1} {
		back := done(t, w, twice(0), spoil(0, place, 7), spoil(0, place, 7))
		if back.Line[0] != (impl.Air{Text: w.Line[0].Text}) {
			t.Errorf("spoilt and turned back it is %#v", back.Line[0])
		}
		if next, ok := checkDo(t, back, bring(0)); ok || len(next.Came) != 0 {
			t.Errorf("spoilt and turned back it comes: %#v", next.Came)
		}
		if next, ok := checkDo(t, back, bring(2)); !ok || len(next.Came) != 1 {
			t.Errorf("what was doubled ahead of that does not come: %#v", next.Came)
		}
	}
}

func TestP64WhatIsForgedIsNotBrought(t *testing.T) {
	keys := keysAt(3, 0, 0)
	frame := frameNumbered(keys, 1, filled(packetBytes(byTunnel0)))
	other := changed(keys, func(s *impl.Sa) { s.Mac = "max" })
	for _, c := range []struct {
		what string
		air  impl.Air
		ok   bool
	}{
		{"forged", impl.Air{Text: "E" + frame}, false}, {"forged, of no packet", impl.Air{Text: "E" + frameNumbered(keys, 1, filled("x"))}, false}, {"forged, wrongly filled", impl.Air{Text: "E" + frameNumbered(keys, 1, strings.Repeat("x", 16))}, false},
		{"forged, above the last number", impl.Air{Text: "E" + frameNumbered(keys, 10, filled("x"))}, false}, {"forged, by other first keys", impl.Air{Text: "E" + frameNumbered(changed(keys, func(s *impl.Sa) { s.Key = strings.Repeat("l", 16) }), 1, filled("x"))}, false}, {"forged, of any bytes", impl.Air{Text: "E" + signed("mac", fourBytes(3, 1)+strings.Repeat("b", 32))}, false}, {"forged, as long as can be", impl.Air{Text: "E" + signed("mac", fourBytes(3, 1)+strings.Repeat("b", 112))}, false},
		{"of tunnel 1", impl.Air{Text: "E" + frameNumbered(keysAt(5, 1, 0), 1, filled("x"))}, false},
		{"its own", impl.Air{Text: "E" + frame, Own: true}, true}, {"of the other mark", impl.Air{Text: "P" + frame}, true}, {"of no mark", impl.Air{Text: frame}, true}, {"of another mark", impl.Air{Text: "e" + frame}, true},
		{"no frame, a byte too long", impl.Air{Text: "E" + signed("mac", frame[:len(frame)-16]+"x")}, true}, {"no frame, of number 0", impl.Air{Text: "E" + frameNumbered(keys, 0, filled("x"))}, true}, {"no frame, of a number of too much", impl.Air{Text: "E" + frameNumbered(keys, numbers+1, filled("x"))}, true}, {"no frame, too short", impl.Air{Text: "E" + signed("mac", fourBytes(3, 1)+strings.Repeat("b", 16))}, true},
		{"without keys", impl.Air{Text: "E" + frameNumbered(keysAt(4, 0, 0), 1, filled("x"))}, true}, {"without keys, of keys 0", impl.Air{Text: "E" + frameNumbered(keysAt(0, 0, 0), 1, filled("x"))}, true},
		{"by another tag", impl.Air{Text: "E" + frameNumbered(other, 1, filled("x"))}, true}, {"the tag turned", impl.Air{Text: "E" + turnedAt(frame, len(frame)-1, 1)}, true}, {"the first byte of the tag turned", impl.Air{Text: "E" + turnedAt(frame, len(frame)-16, 1)}, true}, {"the tag of the mark, too", impl.Air{Text: signed("mac", "E"+frame[:len(frame)-16])}, true},
		{"nothing", impl.Air{}, true}, {"a mark", impl.Air{Text: "E"}, true}, {"a tag alone", impl.Air{Text: "E" + libraryTag("mac", "")}, true},
	} {
		w := worldWith(t, func(w *impl.World) { w.Line = []impl.Air{{Text: "P"}, c.air} })
		next, ok := checkDo(t, w, bring(1))
		if ok != c.ok || len(next.Line) != map[bool]int{true: 1, false: 2}[ok] {
			t.Errorf("%s: WorldBring is %v", c.what, ok)
		}
		if came := len(next.Came) == 1; came != (c.what == "its own") {
			t.Errorf("%s: %#v came", c.what, next.Came)
		}
		if _, ok := checkDo(t, w, lose(1)); !ok {
			t.Errorf("%s: it cannot be lost", c.what)
		}
	}
}

func TestP64WhatIsForgedHangsOnTheKeysOfB(t *testing.T) {
	frame := "E" + frameNumbered(keysAt(3, 0, 0), 1, filled(packetBytes(byTunnel0)))
	early := done(t, impl.WorldNew(), rulesB(reads(worldRules)), inject(frame), inject(frame))
	if w := done(t, early, bring(0)); len(w.Line) != 1 || len(w.Came) != 0 {
		t.Errorf("without keys: %#v", w)
	}
	keyed := done(t, early, give(keysAt(3, 0, 0)))
	if _, ok := checkDo(t, keyed, bring(0)); ok {
		t.Error("with keys it is brought")
	}
	used := done(t, early, rulesA(reads(worldRules)), give(keysAt(3, 0, 0)), put(byTunnel0), bring(2))
	if _, ok := checkDo(t, used, bring(0)); ok || len(used.Came) != 1 {
		t.Errorf("behind the same frame that came it is brought; %#v came", used.Came)
	}
	for range 10 {
		keyed = done(t, keyed, tick)
	}
	if next, ok := checkDo(t, keyed, bring(0)); !ok || len(next.Came) != 0 {
		t.Errorf("behind the keys it is not brought: %#v", next)
	}
}

func TestP65WhatHappensOneByOne(t *testing.T) {
	d := newDice(1106)
	start := []impl.Event{rulesA(reads(worldRules)), rulesB(reads(worldRules)), give(keysAt(3, 0, 0)), give(keysAt(5, 1, 0))}
	if w := impl.WorldPlay(nil); !like(w, impl.WorldNew()) || !like(w, impl.World{A: impl.GateNew(), B: impl.GateNew()}) {
		t.Errorf("WorldPlay of nothing is %#v", w)
	}
	for _, n := range []int{1, 4, 20, playsMost - 1, playsMost, playsMost + 1, playsMost + 20} {
		for range 6 {
			w, events := impl.WorldNew(), []impl.Event{}
			for i := range n {
				e := d.event(w)
				if i < len(start) {
					e = start[i]
				}
				events = append(events, e)
				w, _ = checkDo(t, w, e)
			}
			if n > playsMost {
				w = impl.WorldNew()
			}
			if played := impl.WorldPlay(events); !like(played, w) || !impl.WorldSafe(played) {
				t.Errorf("WorldPlay of %d events is %#v, not %#v", n, played, w)
			}
		}
	}
}

func TestWorldsShareNoMemory(t *testing.T) {
	d := newDice(1107)
	worlds := append(someWorlds(t), done(t, plainWorld(t), put(byTunnel0), put(byTunnel1), twice(0), put(byNone), inject("E"), bring(0)))
	for _, w := range append(worlds, noWorlds(t, d)[:30]...) {
		w = roomy(w)
		leavesAlone(t, "WorldOk", many(w), func() []any { return many(impl.WorldOk(w), impl.WorldSafe(w)) })
		for kind := range 12 {
			for at := range 4 {
				e := roomy(d.event(w))
				e.Kind, e.At, e.Byte, e.With = kind, at, 0, 1
				leavesAlone(t, "WorldDo", many(w, e), func() []any { return many(impl.WorldDo(w, e)) })
			}
		}
	}
	events := roomy([]impl.Event{rulesA(reads(worldRules)), rulesB(reads(worldRules)), give(keysAt(3, 0, 0)), put(byTunnel0), twice(0), inject("text"), bring(0), spoil(0, 1, 1), tick})
	leavesAlone(t, "WorldPlay", many(events), func() []any { return many(impl.WorldPlay(events)) })
	tooMany := roomy(slices.Repeat(events, 10))
	leavesAlone(t, "WorldPlay of too many", many(tooMany), func() []any { return many(impl.WorldPlay(tooMany)) })
	first, second := impl.WorldNew(), impl.WorldNew()
	first.A.Cache.Size, first.B.Now = 9, 9
	if !like(second, impl.World{A: impl.GateNew(), B: impl.GateNew()}) {
		t.Errorf("WorldNew is %#v", second)
	}
}

func TestGatesAtWorkEndWithTheCall(t *testing.T) {
	synctest.Test(t, func(t *testing.T) { // fails, if a goroutine is left that waits for ever
		d := newDice(1108)
		for _, w := range append(someWorlds(t), noWorlds(t, d)[:5]...) {
			for range 20 {
				impl.WorldDo(w, d.event(w))
			}
		}
		impl.Session([]string{"tick", "put 1.1.1.1 2.2.2.2 3 x", "bring 0", "show"})
	})
}

func TestManyCallsAtOnceAnswerTheSame(t *testing.T) {
	d := newDice(1109)
	w := done(t, plainWorld(t), put(byTunnel0), put(byTunnel1), twice(0))
	var events []impl.Event
	for range 40 {
		events = append(events, d.event(w))
	}
	want := impl.WorldPlay(events)
	var all sync.WaitGroup
	for range 8 {
		all.Go(func() {
			for _, e := range events {
				next, ok := impl.WorldDo(w, e)
				if told, toldOk := happened(w, e); ok != toldOk || !like(next, told) {
					t.Errorf("WorldDo of %#v is %#v, %v", e, next, ok)
				}
			}
			if played := impl.WorldPlay(events); !like(played, want) {
				t.Errorf("WorldPlay is %#v, not %#v", played, want)
			}
		})
	}
	all.Wait()
}
