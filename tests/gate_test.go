package tests

import (
	"math"
	"slices"
	"strings"
	"testing"

	"loop.example/overfare/impl"
)

// The limits and marks, told here once more.
const (
	insMost   = 6
	tunsMost  = 4
	seensMost = 4
)

// gateRules guards by two tunnels, passes and drops; and says nothing of some ports.
const gateRules = "guard1 10.0.0.0/24 0.0.0.0/0 0-100\nguard2 0.0.0.0/0 10.0.0.0/24 0-100\npass 0.0.0.0/0 0.0.0.0/0 80-443\ndrop 0.0.0.0/0 0.0.0.0/0 500-600\n"

var (
	guardedBy1 = impl.Packet{From: low + 1, To: 5, Port: 80, Text: "one"}
	guardedBy2 = impl.Packet{From: 7, To: low + 2, Port: 50, Text: "two"}
	passing    = impl.Packet{From: 7, To: 5, Port: 443, Text: "plain"}
	dropped    = impl.Packet{From: 7, To: 5, Port: 550, Text: "none"}
	unruled    = impl.Packet{From: 7, To: 5, Port: 700}
	gatePacks  = []impl.Packet{guardedBy1, guardedBy2, passing, dropped, unruled}
)

// keysAt is new keys of a number and a tunnel, from a time on.
func keysAt(spi, tun, since int) impl.Sa {
	return impl.Sa{Spi: spi, Tun: tun, Key: strings.Repeat("k", 16), Mac: "mac", Since: since, Soft: 4, Hard: 9, Ticks: 5}
}

// plainGate is a gate at 10 that sends by tunnel 1 under 7 and by tunnel 2 under 8, and takes by 7, 8 and 9, the last being of tunnel 3.
func plainGate() impl.Gate {
	return impl.Gate{
		Now: 10, Rules: reads(gateRules), Cache: impl.Cache{Size: seensMost},
		Outs: []impl.Sa{keysAt(7, 1, 10), keysAt(8, 2, 10)},
		Ins:  []impl.Sa{keysAt(7, 1, 10), keysAt(8, 2, 10), keysAt(9, 3, 10)},
	}
}

func gateWith(change func(*impl.Gate)) impl.Gate {
	g := plainGate()
	change(&g)
	return g
}

func seenIn(list []impl.Rule, packets ...impl.Packet) impl.Cache {
	k := impl.Cache{Size: seensMost}
	for _, p := range packets {
		k = after(list, k, callFor(p))
	}
	return k
}

func callFor(p impl.Packet) impl.Call {
	return impl.Call{From: p.From, To: p.To, Port: p.Port}
}

func packetFine(p impl.Packet) bool {
	return goes(callFor(p)) && len(p.Text) <= bodyMost
}

func noPackets() []impl.Packet {
	list := []impl.Packet{{Text: strings.Repeat("x", bodyMost+1)}, {From: low, To: last, Port: 80, Text: strings.Repeat("x", 300)}}
	for _, c := range noCalls {
		list = append(list, impl.Packet{From: c.From, To: c.To, Port: c.Port, Text: "x"})
	}
	return list
}

// keysRow is so many keys, by tunnels and by numbers at once, some of them old, used or dead.
func (d *dice) keysRow(n, now int) []impl.Sa {
	var list []impl.Sa
	spi := 0
	for tun := range n {
		spi += 1 + d.below(100)
		hard := 1 + d.below(60)
		s := impl.Sa{Spi: spi, Tun: tun % tunsMost, Key: d.bytes(16), Mac: d.bytes(1 + d.below(64)), Since: d.below(min(now, 30) + 1), Soft: 1 + d.below(hard), Hard: hard, Ticks: 1 + d.below(20)}
		s.Since = now - s.Since
		s.Sent = d.below(hard + 1)
		for range d.below(6) {
			s.Win, _ = sees(s.Win, 1+d.below(hard))
		}
		list = append(list, s)
	}
	return list
}

func (d *dice) gate(list []impl.Rule) impl.Gate {
	now := []int{0, 1, 10, 500, numbers - 1, numbers}[d.below(6)]
	g := impl.Gate{Now: now, Rules: list, Cache: impl.Cache{Size: seensMost}, Outs: d.keysRow(d.below(tunsMost+1), now), Ins: d.keysRow(d.below(insMost+1), now)}
	for _, c := range someCalls(d, d.below(8), list) {
		g.Cache = after(list, g.Cache, c)
	}
	return g
}

// someGates is gates at each edge, and others.
func someGates(d *dice) []impl.Gate {
	list := []impl.Gate{impl.GateNew(), {Cache: impl.Cache{Size: seensMost}}, plainGate()}
	with := func(change func(*impl.Gate)) {
		list = append(list, gateWith(change))
	}
	for _, now := range []int{0, 1, numbers - 1, numbers} {
		with(func(g *impl.Gate) { g.Now, g.Outs, g.Ins = now, nil, nil })
		with(func(g *impl.Gate) { g.Now, g.Outs, g.Ins = now, d.keysRow(tunsMost, now), d.keysRow(insMost, now) })
	}
	for tun := range tunsMost {
		with(func(g *impl.Gate) { g.Rules, g.Now = []impl.Rule{guard(tun, root, root, 1, ports), passAll}, 15 })
	}
	with(func(g *impl.Gate) { g.Cache = seenIn(g.Rules, guardedBy1) })
	with(func(g *impl.Gate) { g.Cache = seenIn(g.Rules, gatePacks...) })
	with(func(g *impl.Gate) { g.Rules = nil })
	with(func(g *impl.Gate) { g.Rules = reads(manyCells) })
	with(func(g *impl.Gate) { g.Outs = []impl.Sa{keysAt(9, 0, 0), keysAt(9, 3, 10)} })
	with(func(g *impl.Gate) { g.Outs = []impl.Sa{keysAt(9, 0, 10), keysAt(3, 3, 9)} })
	with(func(g *impl.Gate) { g.Ins = []impl.Sa{keysAt(1, 3, 10), keysAt(999, 0, 10)} })
	for _, rules := range someRules() {
		list = append(list, d.gate(rules))
	}
	return list
}

// noGates is gates of which one thing is not as it must be.
func noGates(d *dice) []impl.Gate {
	list := []impl.Gate{{}}
	with := func(change func(*impl.Gate)) {
		list = append(list, gateWith(change))
	}
	for _, now := range []int{-1, 9, numbers + 1, math.MinInt, math.MaxInt} {
		with(func(g *impl.Gate) { g.Now = now })
	}
	for _, now := range []int{-1, numbers + 1, math.MinInt, math.MaxInt} {
		with(func(g *impl.Gate) { g.Now, g.Outs, g.Ins = now, nil, nil })
	}
	for _, size := range []int{0, 3, 5, 16, 17, -1, math.MinInt, math.MaxInt} {
		with(func(g *impl.Gate) { g.Cache.Size = size })
	}
	with(func(g *impl.Gate) {
		g.Cache = impl.Cache{Size: 4, Seens: []impl.Seen{{Call: callFor(guardedBy1), Rule: 1}}}
	})
	with(func(g *impl.Gate) {
		g.Cache = impl.Cache{Size: 4, Seens: []impl.Seen{{Call: impl.Call{From: -1}, Rule: -1}}}
	})
	with(func(g *impl.Gate) {
		g.Cache = seenIn(g.Rules, guardedBy1)
		g.Cache.Seens = append(g.Cache.Seens, g.Cache.Seens[0])
	})
	with(func(g *impl.Gate) { g.Cache = seenIn(g.Rules, guardedBy1); g.Rules = g.Rules[1:] })
	with(func(g *impl.Gate) {
		g.Cache = seenIn(g.Rules, gatePacks[:4]...)
		g.Cache.Seens = append(g.Cache.Seens, impl.Seen{Call: callFor(unruled), Rule: -1})
	})
	for _, rules := range noRules() {
		with(func(g *impl.Gate) { g.Rules = rules })
	}
	for _, keys := range [][]impl.Sa{
		{keysAt(7, 1, 11)}, {keysAt(7, 1, 10), keysAt(8, 2, 11)}, {keysAt(7, 1, 10), keysAt(7, 1, 10)},
		{keysAt(8, 2, 10), keysAt(7, 1, 10)}, {keysAt(7, 1, 10), keysAt(8, 2, 10), keysAt(8, 2, 9)},
	} {
		with(func(g *impl.Gate) { g.Outs = keys })
		with(func(g *impl.Gate) { g.Ins = keys })
	}
	with(func(g *impl.Gate) { g.Outs = []impl.Sa{keysAt(7, 1, 10), keysAt(8, 1, 10)} })
	with(func(g *impl.Gate) { g.Outs = []impl.Sa{keysAt(7, 1, 10), keysAt(8, 0, 10)} })
	with(func(g *impl.Gate) { g.Ins = []impl.Sa{keysAt(7, 1, 10), keysAt(7, 2, 10)} })
	with(func(g *impl.Gate) { g.Ins = []impl.Sa{keysAt(8, 1, 10), keysAt(7, 2, 10)} })
	with(func(g *impl.Gate) { g.Ins = d.keysRow(insMost+1, 10) })
	with(func(g *impl.Gate) { g.Outs = d.keysRow(tunsMost+1, 10) })
	for _, s := range noSas(d) {
		with(func(g *impl.Gate) { g.Outs = []impl.Sa{s} })
		with(func(g *impl.Gate) { g.Ins = []impl.Sa{s} })
	}
	return list
}

// placeBy is the place of the keys of which a number is n, or -1.
func placeBy(list []impl.Sa, number func(impl.Sa) int, n int) int {
	return slices.IndexFunc(list, func(s impl.Sa) bool { return number(s) == n })
}

func theTun(s impl.Sa) int { return s.Tun }
func theSpi(s impl.Sa) int { return s.Spi }

// replaced is a list with other keys at a place, in memory of its own.
func replaced(list []impl.Sa, at int, s impl.Sa) []impl.Sa {
	list = slices.Clone(list)
	list[at] = s
	return list
}

// outOf and inOf tell GateOut and GateIn again, by lists and the library.
func outOf(g impl.Gate, p impl.Packet) (impl.Gate, string, int) {
	if !packetFine(p) {
		return g, "", impl.GateBad
	}
	does := doesWith(g.Rules, callFor(p))
	g.Cache = after(g.Rules, g.Cache, callFor(p))
	switch does[0] {
	case impl.DoDrop:
		return g, "", impl.GateDrop
	case impl.DoPass:
		return g, "P" + packetBytes(p), impl.GatePass
	}
	at := placeBy(g.Outs, theTun, does[1])
	if at < 0 {
		return g, "", impl.GateNone
	}
	next, frame, code := sends(g.Outs[at], g.Now, packetBytes(p))
	if code != impl.SaFine {
		return g, "", impl.GateDead
	}
	g.Outs = replaced(g.Outs, at, next)
	return g, "E" + frame, impl.GateGuard
}

// packetIn reads the bytes of a packet.
func packetIn(text string) (impl.Packet, bool) {
	if len(text) < 11 || len(text) != 11+int(text[10]) || text[10] > bodyMost {
		return impl.Packet{}, false
	}
	n := func(from, to int) int {
		all := 0
		for _, b := range []byte(text[from:to]) {
			all = all*256 + int(b)
		}
		return all
	}
	return impl.Packet{From: n(0, 4), To: n(4, 8), Port: n(8, 10), Text: text[11:]}, true
}

func inOf(g impl.Gate, text string) (impl.Gate, impl.Packet, int) {
	if text == "" || text[0] != 'P' && text[0] != 'E' {
		return g, impl.Packet{}, impl.GateBad
	}
	if text[0] == 'P' {
		p, ok := packetIn(text[1:])
		if !ok {
			return g, impl.Packet{}, impl.GateBad
		}
		g.Cache = after(g.Rules, g.Cache, callFor(p))
		if doesWith(g.Rules, callFor(p))[0] != impl.DoPass {
			return g, impl.Packet{}, impl.GateDrop
		}
		return g, p, impl.GatePass
	}
	spi, _, ok := headed(text[1:])
	if !ok {
		return g, impl.Packet{}, impl.GateBad
	}
	at := placeBy(g.Ins, theSpi, spi)
	if at < 0 {
		return g, impl.Packet{}, impl.GateNone
	}
	next, inner, code := takes(g.Ins[at], g.Now, text[1:])
	if code != impl.SaFine {
		return g, impl.Packet{}, []int{impl.SaDead: impl.GateDead, impl.SaOld: impl.GateOld, impl.SaAgain: impl.GateAgain, impl.SaTag: impl.GateTag}[code]
	}
	g.Ins = replaced(g.Ins, at, next)
	p, ok := packetIn(inner)
	if !ok {
		return g, impl.Packet{}, impl.GateForm
	}
	g.Cache = after(g.Rules, g.Cache, callFor(p))
	if doesWith(g.Rules, callFor(p)) != [2]int{impl.DoGuard, next.Tun} {
		return g, impl.Packet{}, impl.GateWrong
	}
	return g, p, impl.GateGuard
}

func checkOut(t *testing.T, g impl.Gate, p impl.Packet) (impl.Gate, string, int) {
	t.Helper()
	next, text, code := impl.GateOut(g, p)
	want, wantText, wantCode := outOf(g, p)
	if !like(next, want) || text != wantText || code != wantCode || !impl.GateOk(next) {
		t.Errorf("GateOut(%#v, %#v) is %#v, %x, %d, not %#v, %x, %d", g, p, next, text, code, want, wantText, wantCode)
	}
	return next, text, code
}

func checkIn(t *testing.T, g impl.Gate, text string) (impl.Gate, impl.Packet, int) {
	t.Helper()
	next, p, code := impl.GateIn(g, text)
	want, wantPacket, wantCode := inOf(g, text)
	if !like(next, want) || p != wantPacket || code != wantCode || !impl.GateOk(next) {
		t.Errorf("GateIn(%#v, %x) is %#v, %#v, %d, not %#v, %#v, %d", g, text, next, p, code, want, wantPacket, wantCode)
	}
	return next, p, code
}

// strangeTexts is texts that no gate makes.
func strangeTexts(d *dice) []string {
	list := []string{"", "P", "E", "p" + packetBytes(passing), "e", "\x00", "PP" + packetBytes(passing), "EP" + packetBytes(passing), packetBytes(passing), "P" + packetBytes(passing) + "x", "P" + packetBytes(passing)[1:]}
	for _, size := range []int{10, 11, 12, 55, 56, 57, 72, 136, 140, 141, 1000} {
		list = append(list, d.bytes(size), "P"+d.bytes(size), "E"+d.bytes(size))
	}
	return list
}

func TestP49ANewGateLetsNothingThrough(t *testing.T) {
	g := impl.GateNew()
	if !impl.GateOk(g) || !like(g, impl.Gate{Cache: impl.Cache{Size: seensMost}}) {
		t.Errorf("GateNew is %#v", g)
	}
	d := newDice(1001)
	for _, p := range append(somePackets(d)[:60], gatePacks...) {
		if do, tun := impl.GateDoes(g, p); do != impl.DoDrop || tun != 0 {
			t.Errorf("GateDoes(%#v) is %d, %d", p, do, tun)
		}
		if _, text, code := checkOut(t, g, p); text != "" || code != impl.GateDrop {
			t.Errorf("GateOut(%#v) is %x, %d", p, text, code)
		}
		if _, in, code := checkIn(t, g, "P"+packetBytes(p)); in != (impl.Packet{}) || code != impl.GateDrop {
			t.Errorf("GateIn(%#v) is %#v, %d", p, in, code)
		}
		if _, in, code := checkIn(t, g, "E"+frameNumbered(keysAt(7, 1, 0), 1, filled(packetBytes(p)))); in != (impl.Packet{}) || code != impl.GateNone {
			t.Errorf("GateIn(%#v), guarded, is %#v, %d", p, in, code)
		}
	}
	for _, text := range strangeTexts(d) {
		if _, in, code := checkIn(t, g, text); in != (impl.Packet{}) || code == impl.GatePass || code == impl.GateGuard {
			t.Errorf("GateIn(%x) is %#v, %d", text, in, code)
		}
	}
}

func TestGateOk(t *testing.T) {
	d := newDice(1002)
	for _, g := range someGates(d) {
		if !impl.GateOk(g) {
			t.Errorf("GateOk(%#v) is false", g)
		}
	}
	for _, g := range noGates(d) {
		if impl.GateOk(g) {
			t.Errorf("GateOk(%#v) is true", g)
		}
	}
}

func TestGatesThatAreNone(t *testing.T) {
	d := newDice(1003)
	frame := "E" + frameNumbered(keysAt(7, 1, 10), 1, filled(packetBytes(guardedBy1)))
	for _, g := range noGates(d) {
		isNothing := func(what string, next impl.Gate, fixed bool) {
			t.Helper()
			if !like(next, impl.Gate{}) || !fixed {
				t.Errorf("%s of %#v is %#v", what, g, next)
			}
		}
		loaded, ok := impl.GateLoad(g, reads(gateRules))
		isNothing("GateLoad", loaded, !ok)
		sender, ok := impl.GateKeyOut(g, keysAt(100, 0, g.Now))
		isNothing("GateKeyOut", sender, !ok)
		taker, ok := impl.GateKeyIn(g, keysAt(100, 0, g.Now))
		isNothing("GateKeyIn", taker, !ok)
		isNothing("GateTick", impl.GateTick(g), true)
		for _, p := range append(noPackets(), gatePacks...) {
			do, tun := impl.GateDoes(g, p)
			out, text, code := impl.GateOut(g, p)
			isNothing("GateOut", out, text == "" && code == impl.GateBad && do == impl.DoDrop && tun == 0)
		}
		for _, text := range []string{"", "P", "E", "P" + packetBytes(passing), frame} {
			in, p, code := impl.GateIn(g, text)
			isNothing("GateIn", in, p == impl.Packet{} && code == impl.GateBad)
		}
	}
}

func TestP50RulesThatWereLoadedCount(t *testing.T) {
	d := newDice(1004)
	gates := someGates(d)
	for i, rules := range append(someRules(), reads(fullCells), reads(manyCells)) {
		g := gates[i%len(gates)]
		next, ok := impl.GateLoad(g, rules)
		want := g
		if len(cellsOf(rules)) <= impl.CellMax {
			want.Rules, want.Cache = rules, impl.Cache{Size: seensMost}
		}
		if ok != (len(cellsOf(rules)) <= impl.CellMax) || !like(next, want) || !impl.GateOk(next) {
			t.Fatalf("GateLoad(%#v, %v) is %#v, %v", g, rules, next, ok)
		}
		for _, c := range append(someCalls(d, 60, rules), noCalls...) {
			p := impl.Packet{From: c.From, To: c.To, Port: c.Port, Text: "x"}
			if do, tun := impl.GateDoes(next, p); [2]int{do, tun} != doesWith(want.Rules, c) {
				t.Errorf("GateDoes(%v, %v) is %d, %d", want.Rules, c, do, tun)
			}
		}
	}
	for _, rules := range noRules() {
		g := gates[d.below(len(gates))]
		if next, ok := impl.GateLoad(g, rules); ok || !like(next, g) {
			t.Errorf("GateLoad(%#v, %v) is %#v, %v", g, rules, next, ok)
		}
	}
}

func TestP50WhatWasSeenIsForgotten(t *testing.T) {
	g := gateWith(func(g *impl.Gate) { g.Cache = seenIn(g.Rules, gatePacks...) })
	again, ok := impl.GateLoad(g, g.Rules)
	if !ok || len(again.Cache.Seens) != 0 || again.Cache.Size != seensMost {
		t.Errorf("behind the same rules: %#v", again.Cache)
	}
	none, ok := impl.GateLoad(g, nil)
	if do, tun := impl.GateDoes(none, guardedBy1); !ok || len(none.Rules) != 0 || do != impl.DoDrop || tun != 0 || len(none.Outs) != 2 || len(none.Ins) != 3 {
		t.Errorf("behind no rules: %#v", none)
	}
	for _, p := range noPackets() {
		if do, tun := impl.GateDoes(g, p); do != impl.DoDrop || tun != 0 {
			t.Errorf("GateDoes(%#v) is %d, %d", p, do, tun)
		}
	}
}

// usedKeys is keys that are not new at 10, each by one thing, and noSas.
func usedKeys(d *dice, spi, tun int) []impl.Sa {
	fresh := keysAt(spi, tun, 10)
	list := []impl.Sa{
		changed(fresh, func(s *impl.Sa) { s.Sent = 1 }), changed(fresh, func(s *impl.Sa) { s.Sent = 9 }), changed(fresh, func(s *impl.Sa) { s.Win = window(1) }), changed(fresh, func(s *impl.Sa) { s.Win = window(3, 9) }),
		changed(fresh, func(s *impl.Sa) { s.Since = 9 }), changed(fresh, func(s *impl.Sa) { s.Since = 11 }), changed(fresh, func(s *impl.Sa) { s.Since = 0 }), changed(fresh, func(s *impl.Sa) { s.Since = numbers }),
	}
	for _, s := range noSas(d) {
		if s.Spi == plainSa().Spi {
			s.Spi = spi
		}
		if s.Tun == plainSa().Tun {
			s.Tun = tun
		}
		list = append(list, s)
	}
	return list
}

func checkKeyOut(t *testing.T, g impl.Gate, s impl.Sa, wantOk bool) impl.Gate {
	t.Helper()
	next, ok := impl.GateKeyOut(g, s)
	want := g
	if wantOk {
		want.Outs = append(slices.DeleteFunc(slices.Clone(g.Outs), func(o impl.Sa) bool { return o.Tun == s.Tun }), s)
		slices.SortFunc(want.Outs, func(a, b impl.Sa) int { return a.Tun - b.Tun })
	}
	if ok != wantOk || !like(next, want) || !impl.GateOk(next) {
		t.Errorf("GateKeyOut(%#v, %#v) is %#v, %v", g, s, next, ok)
	}
	return next
}

func TestP51ATunnelSendsByTheNewestKeys(t *testing.T) {
	for _, c := range []struct {
		spi, tun int
		ok       bool
	}{
		{6, 1, false}, {7, 1, false}, {8, 1, true}, {999, 1, true}, {1, 1, false}, {7, 2, false}, {8, 2, false}, {9, 2, true}, {1, 0, true}, {7, 0, true}, {1, 3, true}, {999, 3, true}, {8, 3, true},
		{1000, 1, false}, {0, 0, false}, {9, 4, false}, {9, -1, false},
	} {
		g, s := plainGate(), keysAt(c.spi, c.tun, 10)
		next := checkKeyOut(t, g, s, c.ok)
		checkKeyOut(t, next, s, false)
		if c.ok && (!sameSa(next.Outs[placeBy(next.Outs, theTun, c.tun)], s)) {
			t.Errorf("the tunnel %d has not the keys %d", c.tun, c.spi)
		}
	}
	d := newDice(1005)
	for _, s := range append(usedKeys(d, 9, 0), usedKeys(d, 9, 1)...) {
		checkKeyOut(t, plainGate(), s, false)
	}
}

func TestP51AllTunnelsAndNumbers(t *testing.T) {
	for _, order := range [][]int{{0, 1, 2, 3}, {3, 2, 1, 0}, {2, 0, 3, 1}} {
		g := impl.GateNew()
		for i, tun := range order {
			g = checkKeyOut(t, g, keysAt(50-i, tun, 0), true)
		}
		for i, tun := range order {
			checkKeyOut(t, g, keysAt(50-i, tun, 0), false)
			checkKeyOut(t, g, keysAt(49-i, tun, 0), false)
			checkKeyOut(t, g, keysAt(51-i, tun, 0), true)
		}
		if len(g.Outs) != tunsMost {
			t.Errorf("there are %d keys", len(g.Outs))
		}
	}
	for _, g := range someGates(newDice(1006)) {
		for tun := range tunsMost {
			at := placeBy(g.Outs, theTun, tun)
			checkKeyOut(t, g, keysAt(999, tun, g.Now), at < 0 || g.Outs[at].Spi < 999)
			if at >= 0 {
				checkKeyOut(t, g, keysAt(g.Outs[at].Spi, tun, g.Now), false)
			}
		}
	}
}

func checkKeyIn(t *testing.T, g impl.Gate, s impl.Sa, wantOk bool) impl.Gate {
	t.Helper()
	next, ok := impl.GateKeyIn(g, s)
	want := g
	if wantOk {
		want.Ins = append(slices.Clone(g.Ins), s)
		slices.SortFunc(want.Ins, func(a, b impl.Sa) int { return a.Spi - b.Spi })
	}
	if ok != wantOk || !like(next, want) || !impl.GateOk(next) {
		t.Errorf("GateKeyIn(%#v, %#v) is %#v, %v", g, s, next, ok)
	}
	return next
}

func TestP52KeysToTakeStandBesideOthers(t *testing.T) {
	for _, c := range []struct {
		spi, tun int
		ok       bool
	}{
		{6, 1, true}, {7, 1, false}, {7, 2, false}, {8, 0, false}, {9, 3, false}, {10, 1, true}, {1, 1, true}, {999, 3, true}, {0, 0, false}, {1000, 0, false}, {10, 4, false}, {10, -1, false},
	} {
		next := checkKeyIn(t, plainGate(), keysAt(c.spi, c.tun, 10), c.ok)
		checkKeyIn(t, next, keysAt(c.spi, c.tun, 10), false)
	}
	d := newDice(1007)
	for _, s := range append(usedKeys(d, 5, 0), usedKeys(d, 500, 1)...) {
		checkKeyIn(t, plainGate(), s, false)
	}
}

func TestP52SixKeysToTake(t *testing.T) {
	for _, order := range [][]int{{1, 2, 3, 4, 5, 6}, {6, 5, 4, 3, 2, 1}, {4, 1, 6, 2, 5, 3}} {
		g := impl.GateNew()
		for _, spi := range order {
			g = checkKeyIn(t, g, keysAt(10*spi, spi%tunsMost, 0), true)
		}
		for _, spi := range []int{1, 15, 61, 999, 10, 60} {
			checkKeyIn(t, g, keysAt(spi, 0, 0), false)
		}
		if len(g.Ins) != insMost {
			t.Errorf("there are %d keys", len(g.Ins))
		}
	}
	for _, g := range someGates(newDice(1008)) {
		checkKeyIn(t, g, keysAt(999, 0, g.Now), len(g.Ins) < insMost && placeBy(g.Ins, theSpi, 999) < 0)
	}
}

func ticked(g impl.Gate) impl.Gate {
	if g.Now == numbers {
		return g
	}
	g.Now++
	g.Ins = slices.DeleteFunc(slices.Clone(g.Ins), func(s impl.Sa) bool { return g.Now >= s.Since+2*s.Ticks })
	return g
}

func TestP53TimeTakesDeadKeysAway(t *testing.T) {
	for _, g := range someGates(newDice(1009)) {
		for range 30 {
			next := impl.GateTick(g)
			if !like(next, ticked(g)) || !impl.GateOk(next) {
				t.Fatalf("GateTick(%#v) is %#v", g, next)
			}
			g = next
		}
	}
}

func TestP53TimeAtItsEdges(t *testing.T) {
	for _, c := range []struct{ now, since, ticks, left int }{
		{0, 0, 1, 1}, {1, 0, 1, 0}, {1, 1, 1, 1}, {18, 10, 5, 1}, {19, 10, 5, 0}, {20, 10, 5, 0}, {30, 10, 5, 0}, {numbers - 1, numbers - 10, 5, 0}, {numbers - 1, numbers - 9, 5, 1}, {numbers, numbers - 10, 5, 1}, {numbers, 0, 1, 1}, {numbers - 1, 0, numbers / 2, 0}, {numbers - 1, 1, numbers / 2, 1}, {5, 5, numbers, 1},
	} {
		s := changed(keysAt(7, 1, c.since), func(s *impl.Sa) { s.Ticks = c.ticks })
		g := impl.Gate{Now: c.now, Rules: reads(gateRules), Cache: seenIn(reads(gateRules), gatePacks...), Outs: []impl.Sa{s}, Ins: []impl.Sa{s}}
		next := impl.GateTick(g)
		if len(next.Ins) != c.left || next.Now != min(c.now+1, numbers) || !like(next.Outs, g.Outs) || !like(next.Cache, g.Cache) || !like(next.Rules, g.Rules) {
			t.Errorf("from %d keys of %d and %d: %#v", c.now, c.since, c.ticks, next)
		}
	}
	spent := gateWith(func(g *impl.Gate) { g.Ins[0].Sent, g.Ins[1].Win = 9, window(9) })
	if next := impl.GateTick(spent); !like(next.Ins, spent.Ins) {
		t.Errorf("keys that sent and took all are gone: %#v", next.Ins)
	}
}

func TestP54CodesOfSending(t *testing.T) {
	for _, c := range []struct {
		what   string
		gate   impl.Gate
		packet impl.Packet
		code   int
	}{
		{"tunnel 1", plainGate(), guardedBy1, impl.GateGuard}, {"tunnel 2", plainGate(), guardedBy2, impl.GateGuard}, {"pass", plainGate(), passing, impl.GatePass}, {"drop", plainGate(), dropped, impl.GateDrop}, {"no rule", plainGate(), unruled, impl.GateDrop},
		{"no keys", gateWith(func(g *impl.Gate) { g.Outs = g.Outs[:1] }), guardedBy2, impl.GateNone}, {"no keys at all", gateWith(func(g *impl.Gate) { g.Outs = nil }), guardedBy1, impl.GateNone},
		{"the last but one number", gateWith(func(g *impl.Gate) { g.Outs[0].Sent = 8 }), guardedBy1, impl.GateGuard}, {"no number left", gateWith(func(g *impl.Gate) { g.Outs[0].Sent = 9 }), guardedBy1, impl.GateDead},
		{"just in time", gateWith(func(g *impl.Gate) { g.Now = 19 }), guardedBy1, impl.GateGuard}, {"too late", gateWith(func(g *impl.Gate) { g.Now = 20 }), guardedBy1, impl.GateDead},
		{"too late to guard", gateWith(func(g *impl.Gate) { g.Now = 20 }), passing, impl.GatePass},
		{"a long text", plainGate(), changedText(guardedBy1, 40), impl.GateGuard}, {"too long a text", plainGate(), changedText(guardedBy1, 41), impl.GateBad}, {"no text", plainGate(), changedText(guardedBy1, 0), impl.GateGuard},
		{"a port of none", plainGate(), impl.Packet{Port: 65536}, impl.GateBad},
	} {
		next, text, code := checkOut(t, c.gate, c.packet)
		if code != c.code || (text != "") != (code == impl.GatePass || code == impl.GateGuard) {
			t.Errorf("%s: GateOut is %x, %d, not %d", c.what, text, code, c.code)
		}
		seen := len(next.Cache.Seens) == 1 && next.Cache.Seens[0].Call == callFor(c.packet)
		if seen == (code == impl.GateBad) {
			t.Errorf("%s: seen is %v", c.what, next.Cache.Seens)
		}
	}
}

func changedText(p impl.Packet, size int) impl.Packet {
	p.Text = strings.Repeat("x", size)
	return p
}

func TestP54WhatIsSentIsWhatTheFirstRuleSays(t *testing.T) {
	d := newDice(1010)
	guarded := 0
	for _, g := range someGates(d) {
		for _, c := range someCalls(d, 60, g.Rules) {
			p := impl.Packet{From: c.From, To: c.To, Port: c.Port, Text: d.bytes(d.below(42))}
			do, tun := impl.GateDoes(g, p)
			next, text, code := checkOut(t, g, p)
			switch {
			case code == impl.GatePass && (do != impl.DoPass || text != "P"+impl.PacketPut(p)), code == impl.GateDrop && do != impl.DoDrop, (code == impl.GateNone || code == impl.GateDead) && do != impl.DoGuard:
				t.Errorf("GateOut(%#v, %#v) is %x, %d, and does %d", g, p, text, code, do)
			case code == impl.GateGuard:
				keys := next.Outs[placeBy(next.Outs, theTun, tun)]
				inner, ok := impl.FrameGet(keys.Key, keys.Mac, text[1:])
				spi, seq, _ := impl.FrameHead(text[1:])
				if do != impl.DoGuard || !ok || inner != impl.PacketPut(p) || spi != keys.Spi || seq != keys.Sent {
					t.Errorf("GateOut(%#v, %#v) is %x", g, p, text)
				}
				guarded++
			}
			g = next
		}
		for _, p := range noPackets() {
			if next, text, code := checkOut(t, g, p); code != impl.GateBad || text != "" || !like(next, g) {
				t.Errorf("GateOut(%#v, %#v) is %#v, %x, %d", g, p, next, text, code)
			}
		}
	}
	if guarded < 50 {
		t.Errorf("only %d were guarded", guarded)
	}
}

// inCase is what comes in, its code, and whether it is looked up, and taken.
type inCase struct {
	what   string
	gate   impl.Gate
	text   string
	code   int
	looked bool
	taken  bool
}

func inCases() []inCase {
	by7, by8, by9 := keysAt(7, 1, 10), keysAt(8, 2, 10), keysAt(9, 3, 10)
	frame := func(s impl.Sa, seq int, inner string) string { return "E" + frameNumbered(s, seq, filled(inner)) }
	one, two := packetBytes(guardedBy1), packetBytes(guardedBy2)
	late := gateWith(func(g *impl.Gate) { g.Now = 20 })
	soon := gateWith(func(g *impl.Gate) { g.Now = 19 })
	came := gateWith(func(g *impl.Gate) { g.Ins[0].Win, g.Ins[0].Hard = window(5, 20), 30 })
	turned := gateWith(func(g *impl.Gate) { g.Rules = reads("pass 0.0.0.0/0 0.0.0.0/0 0-65535\n") })
	gone := gateWith(func(g *impl.Gate) { g.Rules = nil })
	return []inCase{
		{"plain that passes", plainGate(), "P" + packetBytes(passing), impl.GatePass, true, false}, {"plain that is dropped", plainGate(), "P" + packetBytes(dropped), impl.GateDrop, true, false},
		{"plain that no rule is about", plainGate(), "P" + packetBytes(unruled), impl.GateDrop, true, false}, {"plain that is guarded", plainGate(), "P" + one, impl.GateDrop, true, false},
		{"a mark alone", plainGate(), "P", impl.GateBad, false, false}, {"the other mark alone", plainGate(), "E", impl.GateBad, false, false}, {"nothing", plainGate(), "", impl.GateBad, false, false}, {"another mark", plainGate(), "Q" + packetBytes(passing), impl.GateBad, false, false}, {"a small mark", plainGate(), "p" + packetBytes(passing), impl.GateBad, false, false},
		{"a packet with more", plainGate(), "P" + packetBytes(passing) + "x", impl.GateBad, false, false}, {"a packet of a port of none", plainGate(), "P" + packetBytes(passing)[:10], impl.GateBad, false, false},
		{"guarded by tunnel 1", plainGate(), frame(by7, 1, one), impl.GateGuard, true, true}, {"guarded by tunnel 2", plainGate(), frame(by8, 9, two), impl.GateGuard, true, true},
		{"no frame", plainGate(), frame(by7, 1, one)[:56], impl.GateBad, false, false}, {"a frame that is too long", plainGate(), frame(by7, 1, one) + "x", impl.GateBad, false, false}, {"a frame of number 0", plainGate(), frame(by7, 0, one), impl.GateBad, false, false},
		{"no keys", plainGate(), frame(keysAt(6, 1, 10), 1, one), impl.GateNone, false, false}, {"no keys, spoilt", plainGate(), turnedAt(frame(keysAt(6, 1, 10), 1, one), 30, 1), impl.GateNone, false, false},
		{"too late", late, frame(by7, 1, one), impl.GateDead, false, false}, {"just in time", soon, frame(by7, 1, one), impl.GateGuard, true, true}, {"above the last number", plainGate(), frame(by7, 10, one), impl.GateDead, false, false},
		{"far back", came, frame(by7, 4, one), impl.GateOld, false, false}, {"what came", came, frame(by7, 5, one), impl.GateAgain, false, false}, {"the furthest back", came, frame(by7, 6, one), impl.GateGuard, true, true},
		{"spoilt", plainGate(), turnedAt(frame(by7, 1, one), 30, 1), impl.GateTag, false, false}, {"spoilt and again", came, turnedAt(frame(by7, 5, one), 30, 1), impl.GateAgain, false, false}, {"wrongly filled", plainGate(), "E" + frameNumbered(by7, 1, strings.Repeat("x", 16)), impl.GateTag, false, false},
		{"opened and no packet", plainGate(), frame(by7, 1, one+"x"), impl.GateForm, false, true}, {"opened and nothing", plainGate(), frame(by7, 1, ""), impl.GateForm, false, true}, {"opened and longer than is sent", plainGate(), frame(by7, 1, strings.Repeat("x", 90)), impl.GateForm, false, true},
		{"guarded by another tunnel", plainGate(), frame(by7, 1, two), impl.GateWrong, true, true}, {"guarded by a tunnel that no rule has", plainGate(), frame(by9, 1, one), impl.GateWrong, true, true}, {"guarded what passes", plainGate(), frame(by7, 1, packetBytes(passing)), impl.GateWrong, true, true}, {"guarded what is dropped", plainGate(), frame(by7, 1, packetBytes(dropped)), impl.GateWrong, true, true}, {"guarded what no rule is about", plainGate(), frame(by7, 1, packetBytes(unruled)), impl.GateWrong, true, true},
		{"rules that pass by now", turned, frame(by7, 1, one), impl.GateWrong, true, true}, {"rules that are gone by now", gone, frame(by7, 1, one), impl.GateWrong, true, true},
	}
}

func TestP55CodesOfLettingIn(t *testing.T) {
	for _, c := range inCases() {
		next, p, code := checkIn(t, c.gate, c.text)
		if code != c.code || (p != impl.Packet{}) != (code == impl.GatePass || code == impl.GateGuard) {
			t.Errorf("%s: GateIn is %#v, %d, not %d", c.what, p, code, c.code)
		}
		if looked := len(next.Cache.Seens) == 1; looked != c.looked {
			t.Errorf("%s: it has seen %v", c.what, next.Cache.Seens)
		}
		if taken := !like(next.Ins, c.gate.Ins); taken != c.taken {
			t.Errorf("%s: the keys are %v", c.what, next.Ins)
		}
		again := code
		if c.taken {
			again = impl.GateAgain
		}
		if _, _, code := checkIn(t, next, c.text); code != again {
			t.Errorf("%s: again GateIn is %d", c.what, code)
		}
	}
}

func TestP55WhatIsLetInIsWhatTheRulesLetIn(t *testing.T) {
	d := newDice(1011)
	guarded := 0
	for _, g := range someGates(d) {
		for _, c := range someCalls(d, 60, g.Rules) {
			p := impl.Packet{From: c.From, To: c.To, Port: c.Port, Text: d.bytes(d.below(41))}
			if !packetFine(p) {
				continue
			}
			do, tun := impl.GateDoes(g, p)
			if _, in, code := checkIn(t, g, "P"+packetBytes(p)); (code == impl.GatePass) != (do == impl.DoPass) || code == impl.GatePass && in != p {
				t.Errorf("GateIn(%#v, %#v) is %#v, %d", g, p, in, code)
			}
			if len(g.Ins) == 0 {
				continue
			}
			keys := g.Ins[d.below(len(g.Ins))]
			text := "E" + frameNumbered(keys, 1+d.below(keys.Hard+1), filled(packetBytes(p)))
			next, in, code := checkIn(t, g, text)
			if code == impl.GateGuard {
				guarded++
				if _, _, again := checkIn(t, next, text); do != impl.DoGuard || tun != keys.Tun || in != p || again != impl.GateAgain {
					t.Errorf("GateIn(%#v, %#v) is %#v, then %d", g, p, in, again)
				}
			}
			if code == impl.GateWrong && do == impl.DoGuard && tun == keys.Tun {
				t.Errorf("GateIn(%#v, %#v) is GateWrong", g, p)
			}
			g = next
		}
		for _, text := range strangeTexts(d) {
			checkIn(t, g, text)
		}
	}
	if guarded < 20 {
		t.Errorf("only %d were guarded", guarded)
	}
}

func TestP55ATurnedByteIsNotLetIn(t *testing.T) {
	text := "E" + frameNumbered(keysAt(7, 1, 10), 1, filled(packetBytes(guardedBy1)))
	for at := range text {
		for _, with := range []byte{1, 0x15, 0x80, 0xff} {
			if next, _, code := checkIn(t, plainGate(), turnedAt(text, at, with)); code == impl.GateGuard || !like(next, plainGate()) {
				t.Errorf("with byte %d turned by %d GateIn is %d", at, with, code)
			}
		}
	}
}

func TestP56WhatWasSeenChangesNothing(t *testing.T) {
	d := newDice(1012)
	for _, g := range someGates(d) {
		bare := g
		bare.Cache.Seens = nil
		calls := someCalls(d, 10, g.Rules)
		for _, s := range g.Cache.Seens {
			calls = append(calls, s.Call)
		}
		for _, c := range calls {
			p := impl.Packet{From: c.From, To: c.To, Port: c.Port, Text: "x"}
			full, text, code := impl.GateOut(g, p)
			empty, bareText, bareCode := impl.GateOut(bare, p)
			if text != bareText || code != bareCode || !like(full.Outs, empty.Outs) {
				t.Errorf("GateOut(%#v, %#v) is %x, %d, and %x, %d", g, p, text, code, bareText, bareCode)
			}
			texts := []string{"P" + impl.PacketPut(p)}
			for _, s := range g.Ins {
				texts = append(texts, "E"+frameNumbered(s, 1, filled(impl.PacketPut(p))))
			}
			for _, text := range texts {
				full, in, code := impl.GateIn(g, text)
				empty, bareIn, bareCode := impl.GateIn(bare, text)
				if in != bareIn || code != bareCode || !like(full.Ins, empty.Ins) {
					t.Errorf("GateIn(%#v, %x) is %#v, %d, and %#v, %d", g, text, in, code, bareIn, bareCode)
				}
			}
		}
	}
}

func TestP56FourAreKept(t *testing.T) {
	g := plainGate()
	for i := range 7 {
		next, _, _ := checkOut(t, g, impl.Packet{Port: 500 + i})
		if len(next.Cache.Seens) != min(i+1, seensMost) || next.Cache.Seens[0].Call.Port != 500+i {
			t.Errorf("behind %d packets there are %v", i+1, next.Cache.Seens)
		}
		g = next
	}
	if next, _, _ := checkIn(t, g, "P"+packetBytes(impl.Packet{Port: 504})); next.Cache.Seens[0].Call.Port != 504 || next.Cache.Seens[1].Call.Port != 506 || len(next.Cache.Seens) != 4 {
		t.Errorf("behind one that was seen: %v", next.Cache.Seens)
	}
}

func TestP57WhatOneGateGuardsTheOtherLetsIn(t *testing.T) {
	d := newDice(1013)
	guarded := 0
	for range 40 {
		rules := d.rules(impl.RuleMax)
		a, aOk := impl.GateLoad(impl.GateNew(), rules)
		b, bOk := impl.GateLoad(impl.GateNew(), rules)
		for tun := range tunsMost {
			keys := keysAt(tunsMost*d.below(spiMost/tunsMost)+tun+1, tun, 0)
			keys.Hard, keys.Key, keys.Mac = 100, d.bytes(16), d.bytes(1+d.below(64))
			nextA, outOk := impl.GateKeyOut(a, keys)
			nextB, inOk := impl.GateKeyIn(b, keys)
			if aOk != bOk || !outOk || !inOk {
				t.Fatal(aOk, bOk, outOk, inOk)
			}
			a, b = nextA, nextB
		}
		for _, c := range someCalls(d, 60, rules) {
			p := impl.Packet{From: c.From, To: c.To, Port: c.Port, Text: d.bytes(d.below(41))}
			nextA, text, code := checkOut(t, a, p)
			a = nextA
			if text == "" {
				continue
			}
			if code == impl.GateGuard {
				guarded++
			}
			nextB, in, inCode := checkIn(t, b, text)
			if inCode != code || in != p {
				t.Errorf("of %#v by %v GateIn is %#v, %d, and GateOut %d", p, rules, in, inCode, code)
			}
			b = nextB
		}
	}
	if guarded < 40 {
		t.Errorf("only %d were guarded", guarded)
	}
}

func TestGatesShareNoMemory(t *testing.T) {
	d := newDice(1014)
	gates := someGates(d)
	for i, g := range append(gates[:40], noGates(d)[:60]...) {
		g = roomy(g)
		rules, s := roomy(reads(gateRules)), roomy(keysAt(500+i, i%tunsMost, g.Now))
		used := roomy(changed(s, func(s *impl.Sa) { s.Win = window(1, 2) }))
		leavesAlone(t, "GateOk", many(g), func() []any { return many(impl.GateOk(g)) })
		leavesAlone(t, "GateLoad", many(g, rules), func() []any { return many(impl.GateLoad(g, rules)) })
		leavesAlone(t, "GateLoad of none", many(g), func() []any { return many(impl.GateLoad(g, noRules()[0])) })
		leavesAlone(t, "GateKeyOut", many(g, s), func() []any { return many(impl.GateKeyOut(g, s)) })
		leavesAlone(t, "GateKeyIn", many(g, s), func() []any { return many(impl.GateKeyIn(g, s)) })
		leavesAlone(t, "GateKeyOut of used keys", many(g, used), func() []any { return many(impl.GateKeyOut(g, used)) })
		leavesAlone(t, "GateKeyIn of used keys", many(g, used), func() []any { return many(impl.GateKeyIn(g, used)) })
		leavesAlone(t, "GateTick", many(g), func() []any { return many(impl.GateTick(g)) })
		for _, p := range append(slices.Clone(gatePacks), impl.Packet{From: -1, Text: "wrong"}) {
			p = roomy(p)
			leavesAlone(t, "GateDoes", many(g, p), func() []any { return many(impl.GateDoes(g, p)) })
			leavesAlone(t, "GateOut", many(g, p), func() []any { return many(impl.GateOut(g, p)) })
			text := roomy("P" + impl.PacketPut(p))
			leavesAlone(t, "GateIn", many(g, text), func() []any { return many(impl.GateIn(g, text)) })
			for _, keys := range g.Ins {
				frame := roomy("E" + impl.FramePut(keys.Key, keys.Mac, keys.Spi, 1, strings.Repeat("b", 16), impl.PacketPut(p)))
				leavesAlone(t, "GateIn of a frame", many(g, frame), func() []any { return many(impl.GateIn(g, frame)) })
			}
		}
	}
	for _, c := range inCases() {
		g, text := roomy(c.gate), roomy(c.text)
		leavesAlone(t, c.what, many(g, text), func() []any { return many(impl.GateIn(g, text)) })
	}
}
