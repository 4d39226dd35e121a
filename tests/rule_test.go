package tests

import (
	"cmp"
	"math"
	"slices"
	"strconv"
	"strings"
	"testing"

	"loop.example/overfare/impl"
)

const ports = impl.PortMax

func drop(from, to impl.Block, low, high int) impl.Rule {
	return impl.Rule{Do: impl.DoDrop, From: from, To: to, Low: low, High: high}
}

func pass(from, to impl.Block, low, high int) impl.Rule {
	return impl.Rule{Do: impl.DoPass, From: from, To: to, Low: low, High: high}
}

func guard(tun int, from, to impl.Block, low, high int) impl.Rule {
	return impl.Rule{Do: impl.DoGuard, Tun: tun, From: from, To: to, Low: low, High: high}
}

var (
	passAll   = pass(root, root, 0, ports)
	firstOne  = impl.Block{Base: 0, Bits: 32}
	lastOne   = impl.Block{Base: last, Bits: 32}
	office    = impl.Block{Base: low, Bits: 24}
	floor     = impl.Block{Base: low + 128, Bits: 25}
	lowerHalf = impl.Block{Base: 0, Bits: 1}
	upperHalf = impl.Block{Base: 1 << 31, Bits: 1}
)

// reads is rules that are known to be ok.
func reads(text string) []impl.Rule {
	var list []impl.Rule
	for line := range strings.Lines(text) {
		rules, ok := impl.RulesGet(line)
		if !ok {
			panic("no rule: " + line)
		}
		list = append(list, rules...)
	}
	return list
}

// ports is few numbers, so that rules begin and end beside each other.
func (d *dice) ports() (int, int) {
	few := []int{0, 1, 2, 79, 80, 81, ports - 2, ports - 1, ports}
	a, b := few[d.below(len(few))], few[d.below(len(few))]
	return min(a, b), max(a, b)
}

func (d *dice) side(window int) impl.Block {
	switch d.below(6) {
	case 0:
		return root
	case 1:
		return d.block()
	}
	return blockAt(window+d.below(4), 30+d.below(3))
}

func (d *dice) rule(window int) impl.Rule {
	low, high := d.ports()
	r := impl.Rule{Do: d.below(3), From: d.side(window), To: d.side(window), Low: low, High: high}
	if r.Do == impl.DoGuard {
		r.Tun = d.below(impl.TunMax)
	}
	return r
}

func (d *dice) rules(most int) []impl.Rule {
	var list []impl.Rule
	window := []int{0, low, 1<<31 - 4, last - 3}[d.below(4)]
	for range d.below(most + 1) {
		list = append(list, d.rule(window))
	}
	return list
}

func someRules() [][]impl.Rule {
	list := [][]impl.Rule{
		nil, {}, {passAll}, {drop(root, root, 0, ports)}, {guard(3, root, root, 0, ports)},
		{pass(firstOne, lastOne, 0, 0)}, {pass(lastOne, firstOne, ports, ports)}, {pass(lastOne, lastOne, ports, ports), passAll},
		{guard(1, office, root, 80, 80), guard(1, floor, root, 80, 80)},
		{guard(1, floor, root, 80, 80), guard(1, office, root, 80, 80)},
		{drop(office, root, 0, 79), guard(2, office, office, 0, 443), pass(root, root, 443, 443)},
		{pass(root, root, 0, 99), drop(root, root, 100, ports), guard(0, office, floor, 50, 150)},
		{pass(lowerHalf, root, 0, ports), pass(upperHalf, lowerHalf, 0, ports), pass(upperHalf, upperHalf, 1, ports), drop(root, root, 0, ports)},
		{pass(lowerHalf, root, 0, ports), pass(upperHalf, lowerHalf, 0, ports), pass(upperHalf, upperHalf, 0, ports), drop(root, root, 0, ports)},
		slices.Repeat([]impl.Rule{passAll}, impl.RuleMax),
		reads(fullCells), reads(manyCells),
	}
	d := newDice(401)
	for range 60 {
		list = append(list, d.rules(impl.RuleMax))
	}
	return list
}

func noRules() [][]impl.Rule {
	list := [][]impl.Rule{slices.Repeat([]impl.Rule{passAll}, impl.RuleMax+1)}
	for _, n := range []int{-1, 3, 4, math.MinInt, math.MaxInt} {
		list = append(list, []impl.Rule{{Do: n, High: ports}})
	}
	for _, n := range []int{-1, impl.TunMax, math.MinInt, math.MaxInt} {
		list = append(list, []impl.Rule{guard(n, root, root, 0, ports)})
	}
	for _, n := range []int{-1, 1, impl.TunMax - 1, impl.TunMax, math.MinInt, math.MaxInt} {
		list = append(list, []impl.Rule{{Do: impl.DoDrop, Tun: n, High: ports}}, []impl.Rule{{Do: impl.DoPass, Tun: n, High: ports}})
	}
	for _, b := range noBlocks {
		list = append(list, []impl.Rule{pass(b, root, 0, ports)}, []impl.Rule{passAll, pass(root, b, 0, ports)})
	}
	for _, p := range [][2]int{{-1, 0}, {-1, -1}, {1, 0}, {ports, ports - 1}, {0, ports + 1}, {ports + 1, ports + 1}, {math.MinInt, math.MaxInt}, {math.MinInt, 0}, {0, math.MaxInt}, {math.MaxInt, math.MinInt}} {
		list = append(list, []impl.Rule{pass(root, root, p[0], p[1])}, []impl.Rule{passAll, drop(office, floor, p[0], p[1])})
	}
	return list
}

func goes(c impl.Call) bool {
	return c.From >= 0 && c.From <= last && c.To >= 0 && c.To <= last && c.Port >= 0 && c.Port <= ports
}

func about(r impl.Rule, c impl.Call) bool {
	return r.From.Base <= c.From && c.From <= endOf(r.From) && r.To.Base <= c.To && c.To <= endOf(r.To) && r.Low <= c.Port && c.Port <= r.High
}

// firstRule is the place of the first rule about a call that may go, looked for one by one.
func firstRule(list []impl.Rule, c impl.Call) int {
	for i, r := range list {
		if goes(c) && about(r, c) {
			return i
		}
	}
	return -1
}

// doesWith is what rules do with a call.
func doesWith(list []impl.Rule, c impl.Call) [2]int {
	if i := firstRule(list, c); i >= 0 {
		return [2]int{list[i].Do, list[i].Tun}
	}
	return [2]int{}
}

// box is all calls from one to another one on each of three sides.
type box [3][2]int

var everyCall = box{{0, last}, {0, last}, {0, ports}}

func boxOf(r impl.Rule) box {
	return box{{r.From.Base, endOf(r.From)}, {r.To.Base, endOf(r.To)}, {r.Low, r.High}}
}

func (b box) corner() impl.Call {
	return impl.Call{From: b[0][0], To: b[1][0], Port: b[2][0]}
}

func (b box) end() impl.Call {
	return impl.Call{From: b[0][1], To: b[1][1], Port: b[2][1]}
}

func (b box) both(x box) (box, bool) {
	ok := true
	for i := range b {
		b[i] = [2]int{max(b[i][0], x[i][0]), min(b[i][1], x[i][1])}
		ok = ok && b[i][0] <= b[i][1]
	}
	return b, ok
}

// minus is what a box has and another one has not, cut off side by side: another way than the program's edges.
func (b box) minus(x box) []box {
	common, ok := b.both(x)
	if !ok {
		return []box{b}
	}
	var list []box
	for i := range b {
		ahead, behind := b, b
		ahead[i][1], behind[i][0] = common[i][0]-1, common[i][1]+1
		for _, piece := range []box{ahead, behind} {
			if piece[i][0] <= piece[i][1] {
				list = append(list, piece)
			}
		}
		b[i] = common[i]
	}
	return list
}

// leftOf is what is left of a box behind so many rules.
func leftOf(b box, ahead []impl.Rule) []box {
	list := []box{b}
	for _, r := range ahead {
		var rest []box
		for _, x := range list {
			rest = append(rest, x.minus(boxOf(r))...)
		}
		list = rest
	}
	return list
}

func deadOf(list []impl.Rule) []int {
	var dead []int
	for i, r := range list {
		if len(leftOf(boxOf(r), list[:i])) == 0 {
			dead = append(dead, i)
		}
	}
	return dead
}

func byCall(a, b impl.Call) int {
	return cmp.Or(cmp.Compare(a.From, b.From), cmp.Compare(a.To, b.To), cmp.Compare(a.Port, b.Port))
}

// regions is boxes with what rules do there, of all calls.
func regions(list []impl.Rule) map[box][2]int {
	all := map[box][2]int{}
	for i, r := range list {
		for _, b := range leftOf(boxOf(r), list[:i]) {
			all[b] = [2]int{r.Do, r.Tun}
		}
	}
	for _, b := range leftOf(everyCall, list) {
		all[b] = [2]int{}
	}
	return all
}

func differOf(a, b []impl.Rule) (impl.Call, bool) {
	var first impl.Call
	found := false
	others := regions(b)
	for one, does := range regions(a) {
		for other, otherwise := range others {
			common, ok := one.both(other)
			if ok && does != otherwise && (!found || byCall(common.corner(), first) < 0) {
				first, found = common.corner(), true
			}
		}
	}
	return first, found
}

// someCalls is calls at the edges of rules and beside them, not all of which may go.
func someCalls(d *dice, n int, lists ...[]impl.Rule) []impl.Call {
	froms, tos, at := slices.Clone(someAddresses), slices.Clone(someAddresses), []int{0, 1, 80, ports - 1, ports}
	for _, list := range lists {
		for _, r := range list {
			froms = append(froms, r.From.Base-1, r.From.Base, endOf(r.From), endOf(r.From)+1)
			tos = append(tos, r.To.Base-1, r.To.Base, endOf(r.To), endOf(r.To)+1)
			at = append(at, r.Low-1, r.Low, r.High, r.High+1)
		}
	}
	var calls []impl.Call
	for range n {
		calls = append(calls, impl.Call{From: froms[d.below(len(froms))], To: tos[d.below(len(tos))], Port: at[d.below(len(at))]})
	}
	return calls
}

var noCalls = []impl.Call{
	{From: -1}, {To: -1}, {Port: -1}, {From: last + 1}, {To: last + 1}, {Port: ports + 1}, {From: low, To: low, Port: ports + 1}, {From: low, To: all, Port: 80}, {From: all, To: low, Port: 80},
	{From: math.MinInt}, {From: math.MaxInt}, {To: math.MinInt}, {To: math.MaxInt}, {Port: math.MinInt}, {Port: math.MaxInt}, {From: math.MinInt, To: math.MaxInt, Port: math.MinInt},
}

func TestRulesOk(t *testing.T) {
	for _, list := range someRules() {
		if !impl.RulesOk(list) {
			t.Errorf("%v are not ok", list)
		}
	}
	for _, list := range noRules() {
		if impl.RulesOk(list) {
			t.Errorf("%v are ok", list)
		}
	}
	for tun := range impl.TunMax {
		if !impl.RulesOk([]impl.Rule{guard(tun, office, floor, 7, 7)}) {
			t.Errorf("tunnel %d is not ok", tun)
		}
	}
}

func TestRulesThatAreNotOk(t *testing.T) {
	for _, list := range noRules() {
		for _, c := range append([]impl.Call{{}, {From: low, To: low, Port: 80}, {From: last, To: last, Port: ports}}, noCalls...) {
			if i := impl.RulesFirst(list, c); i != -1 {
				t.Errorf("RulesFirst(%v, %v) is %d", list, c, i)
			}
		}
		if dead := impl.RulesDead(list); len(dead) != 0 {
			t.Errorf("RulesDead(%v) is %v", list, dead)
		}
		for _, other := range [][]impl.Rule{nil, {passAll}, {guard(1, office, root, 0, 0)}, list} {
			if c, ok := impl.RulesDiffer(list, other); c != (impl.Call{}) || ok {
				t.Errorf("RulesDiffer(%v, %v) is %v, %v", list, other, c, ok)
			}
			if c, ok := impl.RulesDiffer(other, list); c != (impl.Call{}) || ok {
				t.Errorf("RulesDiffer(%v, %v) is %v, %v", other, list, c, ok)
			}
		}
		if text := impl.RulesPut(list); text != "" {
			t.Errorf("RulesPut(%v) is %q", list, text)
		}
	}
}

func TestP18RuleThatCountsIsTheFirst(t *testing.T) {
	d := newDice(402)
	for _, list := range someRules() {
		for _, c := range append(someCalls(d, 300, list), noCalls...) {
			if i := impl.RulesFirst(list, c); i != firstRule(list, c) {
				t.Errorf("RulesFirst(%v, %v) is %d, not %d", list, c, i, firstRule(list, c))
			}
		}
	}
}

func TestP18RulesFirstAtTheEnds(t *testing.T) {
	list := []impl.Rule{pass(firstOne, lastOne, 0, 0), pass(lastOne, firstOne, ports, ports), guard(2, office, floor, 80, 443), drop(office, root, 0, ports)}
	for _, c := range []struct {
		from, to, port, rule int
	}{
		{0, last, 0, 0}, {0, last, 1, -1}, {0, last - 1, 0, -1}, {1, last, 0, -1}, {0, last, -1, -1}, {0, last + 1, 0, -1}, {-1, last, 0, -1},
		{last, 0, ports, 1}, {last, 0, ports - 1, -1}, {last, 0, ports + 1, -1}, {last + 1, 0, ports, -1}, {last, -1, ports, -1}, {last, 1, ports, -1}, {last - 1, 0, ports, -1},
		{low, low + 128, 80, 2}, {low + 255, low + 255, 443, 2}, {low, low + 128, 79, 3}, {low, low + 128, 444, 3}, {low, low + 127, 80, 3}, {low, low + 256, 80, 3}, {low + 256, low + 128, 80, -1}, {low - 1, low + 128, 80, -1},
	} {
		if i := impl.RulesFirst(list, impl.Call{From: c.from, To: c.to, Port: c.port}); i != c.rule {
			t.Errorf("%v: %d", c, i)
		}
	}
}

func TestP19WhatIsTheFirstAboutNothingCanGo(t *testing.T) {
	d := newDice(403)
	for _, list := range someRules() {
		dead := impl.RulesDead(list)
		if want := deadOf(list); !slices.Equal(dead, want) {
			t.Fatalf("RulesDead(%v) is %v, not %v", list, dead, want)
		}
		for _, c := range someCalls(d, 100, list) {
			if slices.Contains(dead, impl.RulesFirst(list, c)) {
				t.Errorf("RulesDead(%v) are %v, and one is the first about %v", list, dead, c)
			}
		}
		for _, i := range dead {
			if c, ok := impl.RulesDiffer(list, slices.Delete(slices.Clone(list), i, i+1)); c != (impl.Call{}) || ok {
				t.Errorf("without rule %d of %v: %v", i, list, c)
			}
		}
	}
}

func TestP19RulesThatAreHidden(t *testing.T) {
	lower, upper := impl.Block{Base: low, Bits: 25}, floor
	for i, c := range []struct {
		list []impl.Rule
		dead []int
	}{
		{nil, nil},
		{[]impl.Rule{passAll}, nil},
		{[]impl.Rule{passAll, drop(office, floor, 5, 5)}, []int{1}},
		{[]impl.Rule{drop(office, floor, 5, 5), passAll}, nil},
		{[]impl.Rule{passAll, passAll, passAll}, []int{1, 2}},
		{[]impl.Rule{pass(lower, root, 0, ports), pass(upper, root, 0, ports), drop(office, root, 0, ports)}, []int{2}},
		{[]impl.Rule{pass(lower, root, 0, ports), pass(upper, root, 1, ports), drop(office, root, 0, ports)}, nil},
		{[]impl.Rule{pass(lower, root, 0, ports), pass(upper, root, 0, ports-1), drop(office, root, 0, ports)}, nil},
		{[]impl.Rule{pass(root, root, 0, 99), pass(root, root, 100, ports), drop(office, floor, 99, 100)}, []int{2}},
		{[]impl.Rule{pass(root, root, 0, 99), pass(root, root, 101, ports), drop(office, floor, 99, 101)}, nil},
		{[]impl.Rule{pass(lastOne, lastOne, ports, ports), guard(1, lastOne, lastOne, ports, ports)}, []int{1}},
		{[]impl.Rule{pass(root, lowerHalf, 0, ports), pass(root, upperHalf, 0, ports), guard(1, lastOne, root, 0, 0), drop(root, lastOne, 0, 0)}, []int{2, 3}},
		{[]impl.Rule{pass(root, lowerHalf, 0, ports), pass(lowerHalf, upperHalf, 0, ports), guard(1, upperHalf, upperHalf, 0, ports-1), drop(root, root, 0, ports), drop(upperHalf, upperHalf, ports, ports)}, []int{4}},
	} {
		if dead := impl.RulesDead(c.list); !slices.Equal(dead, c.dead) {
			t.Errorf("%d: %v", i, dead)
		}
	}
}

func TestP20RulesDoOtherwiseWithTheCallThatIsTold(t *testing.T) {
	d := newDice(404)
	lists := someRules()
	for i, a := range lists {
		others := [][]impl.Rule{a, lists[(i+1)%len(lists)], lists[(i+7)%len(lists)]}
		if len(a) > 0 {
			turned := slices.Clone(a)
			turned[d.below(len(a))] = d.rule(low)
			others = append(others, turned, slices.Delete(slices.Clone(a), 0, 1))
		}
		for _, b := range others {
			want, differ := differOf(a, b)
			c, ok := impl.RulesDiffer(a, b)
			if c != want || ok != differ {
				t.Fatalf("RulesDiffer(%v, %v) is %v, %v, not %v, %v", a, b, c, ok, want, differ)
			}
			if again, too := impl.RulesDiffer(b, a); again != c || too != ok {
				t.Errorf("RulesDiffer(%v, %v) is %v, %v", b, a, again, too)
			}
			if ok && doesWith(a, c) == doesWith(b, c) {
				t.Errorf("with %v %v and %v do the same", c, a, b)
			}
			for _, x := range someCalls(d, 60, a, b) {
				if goes(x) && doesWith(a, x) != doesWith(b, x) && (!ok || byCall(x, c) < 0) {
					t.Errorf("RulesDiffer(%v, %v) is %v, %v, not %v", a, b, c, ok, x)
				}
			}
		}
	}
}

func TestP20RulesDifferByWhatTheyDo(t *testing.T) {
	for i, c := range []struct {
		a, b []impl.Rule
		call impl.Call
		ok   bool
	}{
		{nil, nil, impl.Call{}, false},
		{nil, []impl.Rule{passAll}, impl.Call{}, true},
		{nil, []impl.Rule{drop(root, root, 0, ports)}, impl.Call{}, false},
		{nil, []impl.Rule{drop(office, floor, 4, 9)}, impl.Call{}, false},
		{nil, []impl.Rule{guard(0, root, root, 0, ports)}, impl.Call{}, true},
		{[]impl.Rule{guard(1, root, root, 0, ports)}, []impl.Rule{guard(2, root, root, 0, ports)}, impl.Call{}, true},
		{[]impl.Rule{pass(office, floor, 9, 10)}, []impl.Rule{pass(office, floor, 9, 9), pass(office, floor, 10, 10)}, impl.Call{}, false},
		{[]impl.Rule{pass(lowerHalf, root, 0, ports), pass(upperHalf, root, 0, ports)}, []impl.Rule{passAll}, impl.Call{}, false},
		{[]impl.Rule{passAll}, []impl.Rule{pass(root, root, 0, ports-1)}, impl.Call{Port: ports}, true},
		{[]impl.Rule{passAll}, []impl.Rule{drop(lastOne, lastOne, ports, ports), passAll}, impl.Call{From: last, To: last, Port: ports}, true},
		{[]impl.Rule{passAll}, []impl.Rule{guard(0, office, floor, 7, 8), passAll}, impl.Call{From: low, To: low + 128, Port: 7}, true},
		{[]impl.Rule{pass(office, root, 5, 5)}, []impl.Rule{pass(office, root, 4, 5)}, impl.Call{From: low, Port: 4}, true},
		{[]impl.Rule{pass(office, root, 5, 5), pass(lastOne, root, 1, 1)}, []impl.Rule{pass(office, lowerHalf, 5, 5), pass(lastOne, root, 0, 1)}, impl.Call{From: low, To: 1 << 31, Port: 5}, true},
	} {
		if call, ok := impl.RulesDiffer(c.a, c.b); call != c.call || ok != c.ok {
			t.Errorf("%d: %v, %v", i, call, ok)
		}
	}
}

// lineOf is a rule's line, told here once more.
func lineOf(r impl.Rule) string {
	word := []string{"drop", "pass", "guard" + strconv.Itoa(r.Tun)}[r.Do]
	return word + " " + impl.BlockText(r.From) + " " + impl.BlockText(r.To) + " " + strconv.Itoa(r.Low) + "-" + strconv.Itoa(r.High) + "\n"
}

func TestP21RulesAreReadBack(t *testing.T) {
	for _, list := range someRules() {
		want := ""
		for _, r := range list {
			want += lineOf(r)
		}
		text := impl.RulesPut(list)
		if text != want {
			t.Fatalf("RulesPut(%v) is %q", list, text)
		}
		if back, ok := impl.RulesGet(text); !ok || !slices.Equal(back, list) {
			t.Errorf("RulesGet(%q) is %v, %v", text, back, ok)
		}
	}
	text := "guard3 10.0.0.0/24 255.255.255.255/32 0-65535\ndrop 0.0.0.0/0 0.0.0.0/32 65535-65535\n"
	if list, ok := impl.RulesGet(text); !ok || !slices.Equal(list, []impl.Rule{guard(3, office, lastOne, 0, ports), drop(root, firstOne, ports, ports)}) {
		t.Errorf("%v, %v", list, ok)
	}
}

func TestP21OnlyLinesThatAreWrittenAreRead(t *testing.T) {
	line := "guard1 10.0.0.0/24 10.1.0.0/16 10-443\n"
	if list, ok := impl.RulesGet(line); !ok || len(list) != 1 {
		t.Fatal(list, ok)
	}
	lines := strings.Repeat(line, impl.RuleMax)
	if list, ok := impl.RulesGet(lines); !ok || len(list) != impl.RuleMax {
		t.Error(list, ok)
	}
	for _, text := range []string{
		lines + line, strings.Repeat(line, 5000), lines + "\n", "\n" + line, line + "\n", " " + line, line + " ", line[:len(line)-1], line + line[:len(line)-1], line[:len(line)-1] + " \n", line[:len(line)-1] + "\r\n", line + "\x00",
		"\n", " ", "\x00", "guard1", "guard1 ", "guard1 10.0.0.0/24", "guard1 10.0.0.0/24 10.1.0.0/16\n", "guard1 10.0.0.0/24 10.1.0.0/16 \n", "guard1 10.0.0.0/24 10.1.0.0/16 10\n", "guard1 10.0.0.0/24 10.1.0.0/16 10-\n", "guard1 10.0.0.0/24 10.1.0.0/16 -443\n",
		"guard 10.0.0.0/24 10.1.0.0/16 10-443\n", "guard4 10.0.0.0/24 10.1.0.0/16 10-443\n", "guard01 10.0.0.0/24 10.1.0.0/16 10-443\n", "guard-1 10.0.0.0/24 10.1.0.0/16 10-443\n", "guard10 10.0.0.0/24 10.1.0.0/16 10-443\n", "guard+1 10.0.0.0/24 10.1.0.0/16 10-443\n",
		"pass0 10.0.0.0/24 10.1.0.0/16 10-443\n", "drop0 10.0.0.0/24 10.1.0.0/16 10-443\n", "Pass 10.0.0.0/24 10.1.0.0/16 10-443\n", "passed 10.0.0.0/24 10.1.0.0/16 10-443\n", "pas 10.0.0.0/24 10.1.0.0/16 10-443\n", " 10.0.0.0/24 10.1.0.0/16 10-443\n", "1 10.0.0.0/24 10.1.0.0/16 10-443\n",
		"guard1  10.0.0.0/24 10.1.0.0/16 10-443\n", "guard1\t10.0.0.0/24 10.1.0.0/16 10-443\n", "guard1\n10.0.0.0/24 10.1.0.0/16 10-443\n", "guard1 10.0.0.0/24\n10.1.0.0/16 10-443\n", "guard1 10.0.0.0/24 10.1.0.0/16\n10-443\n", "guard1 10.0.0.0/24 10.1.0.0/16 10 -443\n", "guard1 10.0.0.0/24 10.1.0.0/16 10- 443\n", "guard1 10.0.0.0/24 10.1.0.0/16 10\n-443\n", "guard1 10.0.0.0/24 10.1.0.0/16 10--443\n", "guard1 10.0.0.0/24 10.1.0.0/16 10-443-\n", "guard1 10.0.0.0/24 10.1.0.0/16 10-443 1\n",
		"guard1 10.0.0.1/24 10.1.0.0/16 10-443\n", "guard1 10.0.0.0/24 10.1.0.1/16 10-443\n", "guard1 10.0.0.0 10.1.0.0/16 10-443\n", "guard1 10.0.0.0/33 10.1.0.0/16 10-443\n", "guard1 10.0.0.0/24 256.1.0.0/16 10-443\n", "guard1 10.0.0.0/024 10.1.0.0/16 10-443\n",
		"guard1 10.0.0.0/24 10.1.0.0/16 010-443\n", "guard1 10.0.0.0/24 10.1.0.0/16 10-0443\n", "guard1 10.0.0.0/24 10.1.0.0/16 443-10\n", "guard1 10.0.0.0/24 10.1.0.0/16 10-65536\n", "guard1 10.0.0.0/24 10.1.0.0/16 65536-65536\n", "guard1 10.0.0.0/24 10.1.0.0/16 10-18446744073709551626\n", "guard1 10.0.0.0/24 10.1.0.0/16 -1-443\n", "guard1 10.0.0.0/24 10.1.0.0/16 10-+443\n", "guard1 10.0.0.0/24 10.1.0.0/16 1_0-443\n", "guard1 10.0.0.0/24 10.1.0.0/16 0x10-443\n",
	} {
		if list, ok := impl.RulesGet(text); len(list) != 0 || ok {
			t.Errorf("RulesGet(%.80q) is %v, %v", text, list, ok)
		}
	}
	if list, ok := impl.RulesGet(""); len(list) != 0 || !ok {
		t.Errorf("no lines: %v, %v", list, ok)
	}
}

func TestP21WhatIsReadIsWritten(t *testing.T) {
	d := newDice(405)
	read := 0
	for _, list := range someRules() {
		text := impl.RulesPut(list)
		if text == "" {
			continue
		}
		for range 60 {
			spoilt := d.spoilt(text)
			back, ok := impl.RulesGet(spoilt)
			if ok && impl.RulesPut(back) != spoilt || !ok && len(back) != 0 || ok && !impl.RulesOk(back) {
				t.Errorf("RulesGet(%q) is %v, %v", spoilt, back, ok)
			}
			if ok && spoilt != text {
				read++
			}
		}
	}
	if read == 0 {
		t.Error("no other text was read")
	}
}

func TestP74RuleBehindAllOthers(t *testing.T) {
	d := newDice(406)
	for _, list := range someRules() {
		if len(list) == impl.RuleMax {
			list = list[:impl.RuleMax-1]
		}
		more := append(slices.Clone(list), guard(2, root, root, 0, ports))
		for _, c := range append(someCalls(d, 200, list), noCalls...) {
			want := impl.RulesFirst(list, c)
			if want == -1 && goes(c) {
				want = len(list)
			}
			if i := impl.RulesFirst(more, c); i != want {
				t.Errorf("RulesFirst(%v, %v) is %d, not %d", more, c, i, want)
			}
		}
		dead, was := impl.RulesDead(more), impl.RulesDead(list)
		if len(dead) < len(was) || !slices.Equal(dead[:len(was)], was) || len(dead) > len(was)+1 {
			t.Errorf("RulesDead(%v) is %v, not %v", more, dead, was)
		}
		whole := len(leftOf(everyCall, list)) == 0
		if whole != slices.Contains(dead, len(list)) {
			t.Errorf("RulesDead(%v) is %v", more, dead)
		}
	}
}

func TestP75RulesAndTheSameBehindThem(t *testing.T) {
	for _, list := range someRules() {
		list = list[:min(len(list), impl.RuleMax/2)]
		twice := slices.Concat(list, list)
		if c, ok := impl.RulesDiffer(list, twice); c != (impl.Call{}) || ok {
			t.Errorf("with %v %v do otherwise twice", c, list)
		}
		want := impl.RulesDead(list)
		for i := range list {
			want = append(want, len(list)+i)
		}
		if dead := impl.RulesDead(twice); !slices.Equal(dead, want) {
			t.Errorf("RulesDead(%v) is %v, not %v", twice, dead, want)
		}
	}
}

func TestRulesShareNoMemory(t *testing.T) {
	spare, other := guard(3, lastOne, firstOne, 1, 2), pass(firstOne, lastOne, 3, 4)
	lists := append(someRules(), noRules()...)
	for i, list := range lists {
		a, b := lend(list, spare), lend(lists[(i+3)%len(lists)], spare)
		impl.RulesOk(a.list)
		impl.RulesFirst(a.list, impl.Call{From: low})
		impl.RulesDiffer(a.list, b.list)
		text := impl.RulesPut(a.list)
		dead := impl.RulesDead(a.list)
		b.unchanged(t)
		for i := range dead[:cap(dead)] {
			dead[:cap(dead)][i] = -7
		}
		back, _ := impl.RulesGet(text)
		a.apartFrom(t, back, other)
		if impl.RulesPut(a.list) != text || slices.Contains(impl.RulesDead(a.list), -7) {
			t.Errorf("%v answers otherwise again", list)
		}
	}
}
