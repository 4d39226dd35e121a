package tests

import (
	"math"
	"slices"
	"testing"

	"loop.example/overfare/impl"
)

// fullCells is rules of just as many cells as there may be: 13 pieces of From, 11 of To and 3 of ports are 429, and 29 go on in one ahead of them. manyCells has one more.
const (
	fullCells = "pass 10.0.0.0/32 0.0.0.0/0 0-65535\npass 10.0.0.2/32 10.0.0.2/32 0-20\npass 10.0.0.4/32 10.0.0.4/32 0-20\npass 10.0.0.6/32 10.0.0.6/32 0-65535\npass 10.0.0.8/32 10.0.0.8/32 0-65535\npass 10.0.0.10/32 10.0.0.10/32 0-20\npass 0.0.0.0/0 0.0.0.0/0 10-20\npass 0.0.0.0/0 0.0.0.0/0 0-65535\n"
	manyCells = "pass 10.0.0.0/32 10.0.0.0/32 0-20\npass 10.0.0.2/32 0.0.0.0/0 0-65535\npass 10.0.0.4/32 10.0.0.4/32 0-65535\npass 10.0.0.6/32 10.0.0.6/32 0-20\npass 10.0.0.8/32 10.0.0.8/32 0-65535\npass 0.0.0.0/0 0.0.0.0/0 10-20\npass 10.0.0.12/32 10.0.0.12/32 0-20\npass 0.0.0.0/0 0.0.0.0/0 0-65535\n"
)

func cell(fromLow, fromHigh, toLow, toHigh, low, high, rule int) impl.Cell {
	return impl.Cell{FromLow: fromLow, FromHigh: fromHigh, ToLow: toLow, ToHigh: toHigh, Low: low, High: high, Rule: rule}
}

// cutAt is all numbers up to most, cut at the edges of some reaches.
func cutAt(reaches [][2]int, most int) [][2]int {
	edges := []int{0, most + 1}
	for _, r := range reaches {
		edges = append(edges, r[0], r[1]+1)
	}
	slices.Sort(edges)
	edges = slices.Compact(edges)
	var list [][2]int
	for i := 1; i < len(edges); i++ {
		list = append(list, [2]int{edges[i-1], edges[i] - 1})
	}
	return list
}

// cellsOf is the cells of rules, as many as there are.
func cellsOf(list []impl.Rule) []impl.Cell {
	var sides [3][][2]int
	for _, r := range list {
		for i, reach := range boxOf(r) {
			sides[i] = append(sides[i], reach)
		}
	}
	var cells []impl.Cell
	for _, from := range cutAt(sides[0], last) {
		for _, to := range cutAt(sides[1], last) {
			ahead := -1
			for _, port := range cutAt(sides[2], ports) {
				rule := firstRule(list, impl.Call{From: from[0], To: to[0], Port: port[0]})
				if rule >= 0 && rule == ahead {
					cells[len(cells)-1].High = port[1]
				} else if rule >= 0 {
					cells = append(cells, cell(from[0], from[1], to[0], to[1], port[0], port[1], rule))
				}
				ahead = rule
			}
		}
	}
	return cells
}

func cellBox(c impl.Cell) box {
	return box{{c.FromLow, c.FromHigh}, {c.ToLow, c.ToHigh}, {c.Low, c.High}}
}

func cellHas(cell impl.Cell, c impl.Call) bool {
	return cell.FromLow <= c.From && c.From <= cell.FromHigh && cell.ToLow <= c.To && c.To <= cell.ToHigh && cell.Low <= c.Port && c.Port <= cell.High
}

func TestP22RulesMadeDisjoint(t *testing.T) {
	d := newDice(501)
	for _, list := range someRules() {
		want := cellsOf(list)
		cells, ok := impl.Cells(list)
		if len(want) > impl.CellMax {
			if ok || len(cells) != 0 {
				t.Errorf("Cells(%v) are %d, %v", list, len(cells), ok)
			}
			continue
		}
		if !ok || !slices.Equal(cells, want) {
			t.Fatalf("Cells(%v) is %v, %v, not %v", list, cells, ok, want)
		}
		for i, a := range cells {
			for _, c := range []impl.Call{cellBox(a).corner(), cellBox(a).end()} {
				if impl.RulesFirst(list, c) != a.Rule {
					t.Errorf("at %v %v has rule %d", c, list, a.Rule)
				}
			}
			for _, b := range cells[i+1:] {
				if impl.CellsMeet(a, b) {
					t.Errorf("%v and %v of %v meet", a, b, list)
				}
			}
		}
		for _, c := range append(someCalls(d, 200, list), noCalls...) {
			if rule := impl.CellsFind(cells, c); rule != firstRule(list, c) {
				t.Errorf("by the cells of %v %v has rule %d", list, c, rule)
			}
		}
	}
}

func TestP22CellsOfFewRules(t *testing.T) {
	for i, c := range []struct {
		text  string
		cells []impl.Cell
	}{
		{"", nil},
		{"drop 0.0.0.0/0 0.0.0.0/0 0-65535\n", []impl.Cell{cell(0, last, 0, last, 0, ports, 0)}},
		{"pass 255.255.255.255/32 0.0.0.0/32 65535-65535\n", []impl.Cell{cell(last, last, 0, 0, ports, ports, 0)}},
		{"pass 0.0.0.0/0 0.0.0.0/0 5-9\npass 0.0.0.0/0 0.0.0.0/0 7-12\n", []impl.Cell{cell(0, last, 0, last, 5, 9, 0), cell(0, last, 0, last, 10, 12, 1)}},
		{"drop 0.0.0.0/0 0.0.0.0/0 7-7\npass 0.0.0.0/0 0.0.0.0/0 5-9\n", []impl.Cell{cell(0, last, 0, last, 5, 6, 1), cell(0, last, 0, last, 7, 7, 0), cell(0, last, 0, last, 8, 9, 1)}},
		{"pass 0.0.0.0/0 0.0.0.0/0 5-9\npass 0.0.0.0/0 0.0.0.0/0 10-12\n", []impl.Cell{cell(0, last, 0, last, 5, 9, 0), cell(0, last, 0, last, 10, 12, 1)}},
		{"pass 0.0.0.0/1 0.0.0.0/0 5-9\npass 0.0.0.0/0 0.0.0.0/0 7-7\n", []impl.Cell{cell(0, 1<<31-1, 0, last, 5, 9, 0), cell(1<<31, last, 0, last, 7, 7, 1)}},
		{"pass 0.0.0.0/0 0.0.0.0/0 0-65535\npass 128.0.0.0/1 0.0.0.0/1 7-7\n", []impl.Cell{cell(0, 1<<31-1, 0, 1<<31-1, 0, ports, 0), cell(0, 1<<31-1, 1<<31, last, 0, ports, 0), cell(1<<31, last, 0, 1<<31-1, 0, ports, 0), cell(1<<31, last, 1<<31, last, 0, ports, 0)}},
		{"guard2 255.255.255.255/32 0.0.0.0/32 0-0\ndrop 255.255.255.254/31 0.0.0.0/31 0-1\n", []impl.Cell{
			cell(last-1, last-1, 0, 0, 0, 1, 1), cell(last-1, last-1, 1, 1, 0, 1, 1), cell(last, last, 0, 0, 0, 0, 0), cell(last, last, 0, 0, 1, 1, 1), cell(last, last, 1, 1, 0, 1, 1)}},
	} {
		if cells, ok := impl.Cells(reads(c.text)); !ok || !slices.Equal(cells, c.cells) {
			t.Errorf("%d: %v, %v", i, cells, ok)
		}
	}
}

func TestP22CellsAtTheirLimit(t *testing.T) {
	if cells, ok := impl.Cells(reads(fullCells)); !ok || len(cells) != impl.CellMax {
		t.Errorf("just as many as may be: %d, %v", len(cells), ok)
	}
	if n := len(cellsOf(reads(manyCells))); n != impl.CellMax+1 {
		t.Fatalf("%d cells", n)
	}
	if cells, ok := impl.Cells(reads(manyCells)); ok || len(cells) != 0 {
		t.Errorf("one too many: %d, %v", len(cells), ok)
	}
	for _, list := range noRules() {
		if cells, ok := impl.Cells(list); ok || len(cells) != 0 {
			t.Errorf("Cells(%v) is %v, %v", list, cells, ok)
		}
	}
}

// cell is any cell, of small numbers, so that several meet, and some have nothing.
func (d *dice) cell() impl.Cell {
	n := func() int { return d.below(7) - 2 }
	return cell(n(), n()+2, n(), n()+2, n(), n()+2, d.below(9))
}

func TestP23RuleOfTheFirstCell(t *testing.T) {
	d := newDice(502)
	for range 300 {
		var cells []impl.Cell
		for range d.below(9) {
			cells = append(cells, d.cell())
		}
		for range 40 {
			c := impl.Call{From: d.below(9) - 2, To: d.below(9) - 2, Port: d.below(9) - 2}
			want := -1
			for _, cell := range slices.Backward(cells) {
				if cellHas(cell, c) {
					want = cell.Rule
				}
			}
			if rule := impl.CellsFind(cells, c); rule != want {
				t.Errorf("CellsFind(%v, %v) is %d, not %d", cells, c, rule, want)
			}
		}
	}
	whole := cell(math.MinInt, math.MaxInt, math.MinInt, math.MaxInt, math.MinInt, math.MaxInt, -5)
	for _, c := range append(noCalls, impl.Call{}) {
		if rule := impl.CellsFind([]impl.Cell{whole}, c); rule != -5 {
			t.Errorf("CellsFind(%v) is %d", c, rule)
		}
		if rule := impl.CellsFind(nil, c); rule != -1 {
			t.Errorf("without cells %v has rule %d", c, rule)
		}
	}
	many := append(slices.Repeat([]impl.Cell{{FromLow: 1, Rule: 3}}, 1000), whole)
	if rule := impl.CellsFind(many, impl.Call{}); rule != -5 {
		t.Errorf("of many cells: %d", rule)
	}
}

func TestP24CellsMeet(t *testing.T) {
	d := newDice(503)
	for range 3000 {
		a, b := d.cell(), d.cell()
		later := impl.Call{From: max(a.FromLow, b.FromLow), To: max(a.ToLow, b.ToLow), Port: max(a.Low, b.Low)}
		want := cellHas(a, later) && cellHas(b, later)
		if impl.CellsMeet(a, b) != want || impl.CellsMeet(b, a) != want {
			t.Errorf("CellsMeet(%v, %v) is not %v", a, b, want)
		}
		some := false
		for n := range 9 * 9 * 9 {
			c := impl.Call{From: n%9 - 2, To: n/9%9 - 2, Port: n/81 - 2}
			some = some || cellHas(a, c) && cellHas(b, c)
		}
		if some != want {
			t.Fatalf("%v and %v", a, b)
		}
	}
	one := cell(5, 5, 6, 6, 7, 7, 0)
	for _, c := range []struct {
		cell impl.Cell
		meet bool
	}{
		{one, true}, {cell(0, 5, 0, 6, 0, 7, 4), true}, {cell(5, 9, 6, 9, 7, 9, 0), true},
		{cell(0, 4, 0, 9, 0, 9, 0), false}, {cell(6, 9, 0, 9, 0, 9, 0), false}, {cell(0, 9, 0, 5, 0, 9, 0), false}, {cell(0, 9, 7, 9, 0, 9, 0), false}, {cell(0, 9, 0, 9, 0, 6, 0), false}, {cell(0, 9, 0, 9, 8, 9, 0), false},
		{cell(6, 5, 0, 9, 0, 9, 0), false}, {impl.Cell{}, false}, {cell(math.MinInt, math.MaxInt, math.MinInt, math.MaxInt, math.MinInt, math.MaxInt, 0), true}, {cell(math.MaxInt, math.MinInt, 0, 9, 0, 9, 0), false},
	} {
		if impl.CellsMeet(one, c.cell) != c.meet || impl.CellsMeet(c.cell, one) != c.meet {
			t.Errorf("CellsMeet(%v, %v) is not %v", one, c.cell, c.meet)
		}
	}
}

// after is what a cache has seen behind a call, told here once more.
func after(list []impl.Rule, k impl.Cache, c impl.Call) impl.Cache {
	if !goes(c) {
		return k
	}
	seens := []impl.Seen{{Call: c, Rule: firstRule(list, c)}}
	for _, s := range k.Seens {
		if s.Call != c {
			seens = append(seens, s)
		}
	}
	return impl.Cache{Size: k.Size, Seens: seens[:min(len(seens), k.Size)]}
}

func sameCache(a, b impl.Cache) bool {
	return a.Size == b.Size && slices.Equal(a.Seens, b.Seens)
}

var cacheSizes = []int{0, 1, 2, 3, impl.CacheMax, 15, 16}

func TestP25And76CacheChangesNoAnswer(t *testing.T) {
	d := newDice(504)
	for i, list := range someRules() {
		k := impl.Cache{Size: cacheSizes[i%len(cacheSizes)]}
		few := append(someCalls(d, 3+d.below(20), list), noCalls[i%len(noCalls)])
		for range 60 {
			c := few[d.below(len(few))]
			next, rule := impl.CacheFind(list, k, c)
			if rule != firstRule(list, c) || rule != impl.RulesFirst(list, c) || !sameCache(next, after(list, k, c)) || !impl.CacheOk(list, next) {
				t.Fatalf("CacheFind(%v, %v, %v) is %v, %d", list, k, c, next, rule)
			}
			if again, same := impl.CacheFind(list, next, c); same != rule || !sameCache(again, next) {
				t.Errorf("again: CacheFind(%v, %v, %v) is %v, %d", list, next, c, again, same)
			}
			k = next
		}
	}
}

func TestP25CacheThatIsFull(t *testing.T) {
	list := []impl.Rule{pass(root, root, 0, 7), drop(root, root, 8, 90)}
	for _, size := range cacheSizes {
		k := impl.Cache{Size: size}
		for port := range 20 {
			k, _ = impl.CacheFind(list, k, impl.Call{Port: port})
			if len(k.Seens) != min(size, port+1) {
				t.Fatalf("of size %d: %v", size, k)
			}
			for i, s := range k.Seens {
				if s.Call.Port != port-i || s.Rule != min((port-i)/8, 1) {
					t.Errorf("of size %d: %v", size, k)
				}
			}
		}
		if size == 0 {
			continue
		}
		oldest := k.Seens[size-1]
		again, rule := impl.CacheFind(list, k, oldest.Call)
		if want := append([]impl.Seen{oldest}, k.Seens[:size-1]...); rule != oldest.Rule || again.Size != size || !slices.Equal(again.Seens, want) {
			t.Errorf("the oldest of size %d: %v, %d", size, again, rule)
		}
		for _, c := range noCalls {
			if same, rule := impl.CacheFind(list, k, c); rule != -1 || !sameCache(same, k) {
				t.Errorf("of %v: %v, %d", c, same, rule)
			}
		}
	}
}

func TestCacheOk(t *testing.T) {
	list := []impl.Rule{pass(office, root, 0, 100), guard(1, root, root, 50, 150)}
	seen := func(port, rule int) impl.Seen {
		return impl.Seen{Call: impl.Call{From: low, Port: port}, Rule: rule}
	}
	var sixteen, seventeen []impl.Seen
	for port := range 17 {
		sixteen = seventeen
		seventeen = append(seventeen, seen(port, 0))
	}
	good := []impl.Cache{
		{}, {Size: 16}, {Size: 1, Seens: []impl.Seen{seen(100, 0)}}, {Size: 2, Seens: []impl.Seen{seen(101, 1), seen(151, -1)}}, {Size: 16, Seens: []impl.Seen{seen(ports, -1), seen(0, 0)}}, {Size: 16, Seens: sixteen},
	}
	for _, k := range good {
		if !impl.CacheOk(list, k) {
			t.Errorf("%v is not ok", k)
		}
		for _, none := range noRules() {
			if x, rule := impl.CacheFind(none, k, impl.Call{}); impl.CacheOk(none, k) || rule != -1 || !sameCache(x, impl.Cache{}) {
				t.Errorf("%v is ok of %v: %v, %d", k, none, x, rule)
			}
		}
	}
	bad := []impl.Cache{
		{Size: -1}, {Size: 17}, {Size: math.MinInt}, {Size: math.MaxInt}, {Size: 17, Seens: seventeen}, {Size: 16, Seens: seventeen}, {Size: 0, Seens: seventeen[:1]}, {Size: 15, Seens: sixteen}, {Size: -1, Seens: seventeen[:1]},
		{Size: 4, Seens: []impl.Seen{seen(100, 1)}}, {Size: 4, Seens: []impl.Seen{seen(101, 0)}}, {Size: 4, Seens: []impl.Seen{seen(0, -1)}}, {Size: 4, Seens: []impl.Seen{seen(151, 0)}}, {Size: 4, Seens: []impl.Seen{seen(151, -2)}}, {Size: 4, Seens: []impl.Seen{seen(3, 0), seen(4, 2)}}, {Size: 4, Seens: []impl.Seen{seen(3, 0), seen(4, math.MaxInt)}},
		{Size: 4, Seens: []impl.Seen{seen(3, 0), seen(3, 0)}}, {Size: 4, Seens: []impl.Seen{seen(3, 0), seen(4, 0), seen(3, 0)}}, {Size: 4, Seens: []impl.Seen{seen(-1, -1)}}, {Size: 4, Seens: []impl.Seen{seen(3, 0), seen(ports+1, -1)}},
	}
	for _, c := range noCalls {
		bad = append(bad, impl.Cache{Size: 16, Seens: []impl.Seen{{Call: c, Rule: -1}}})
	}
	for _, k := range bad {
		if impl.CacheOk(list, k) {
			t.Errorf("%v is ok", k)
		}
		for _, c := range []impl.Call{{}, {From: low, Port: 3}, {From: -1}} {
			if x, rule := impl.CacheFind(list, k, c); rule != -1 || !sameCache(x, impl.Cache{}) {
				t.Errorf("CacheFind(%v, %v) is %v, %d", k, c, x, rule)
			}
		}
	}
}

func TestP26HowMuchIsKeptDoesNotMatter(t *testing.T) {
	d := newDice(505)
	for i, list := range someRules() {
		few := append(someCalls(d, 1+d.below(25), list), noCalls[i%len(noCalls)])
		var calls []impl.Call
		var want []int
		for range []int{0, 1, 7, 59, 60}[i%5] {
			c := few[d.below(len(few))]
			calls = append(calls, c)
			want = append(want, firstRule(list, c))
		}
		for size := range 17 {
			if rules := impl.CacheRun(list, size, calls); !slices.Equal(rules, want) {
				t.Errorf("CacheRun(%v, %d, %v) is %v, not %v", list, size, calls, rules, want)
			}
		}
	}
}

func TestP26CacheRunAtItsLimits(t *testing.T) {
	calls := slices.Repeat([]impl.Call{{From: low}, {From: low, Port: 9}}, 40)
	list := []impl.Rule{pass(office, root, 0, 8)}
	if rules := impl.CacheRun(list, 16, calls[:60]); !slices.Equal(rules, slices.Repeat([]int{0, -1}, 30)) {
		t.Errorf("60 calls: %v", rules)
	}
	for _, n := range []int{61, 62, 80} {
		if rules := impl.CacheRun(list, 16, calls[:n]); len(rules) != 0 {
			t.Errorf("%d calls: %v", n, rules)
		}
	}
	for _, size := range []int{-1, 17, math.MinInt, math.MaxInt} {
		if rules := impl.CacheRun(list, size, calls[:2]); len(rules) != 0 {
			t.Errorf("of size %d: %v", size, rules)
		}
	}
	for _, none := range noRules() {
		if rules := impl.CacheRun(none, 4, calls[:2]); len(rules) != 0 {
			t.Errorf("of %v: %v", none, rules)
		}
	}
}

func TestCellsAndCacheShareNoMemory(t *testing.T) {
	d := newDice(506)
	oddCall := impl.Call{From: 77, To: 78, Port: 79}
	spare, spareSeen, spareCell := guard(3, lastOne, firstOne, 1, 2), impl.Seen{Call: oddCall, Rule: 7}, impl.Cell{Rule: 7}
	for _, list := range append(someRules(), noRules()...) {
		rules := lend(list, spare)
		calls := lend(someCalls(d, 12, reads(manyCells)), oddCall)
		made, ok := impl.Cells(rules.list)
		cells := lend(made, spareCell)
		impl.CellsFind(cells.list, oddCall)
		cells.unchanged(t)
		scribble(made, spareCell)
		if again, same := impl.Cells(rules.list); same != ok || !slices.Equal(again, cells.list) {
			t.Errorf("Cells(%v) again is %v, %v", list, again, same)
		}
		k := impl.Cache{Size: 4}
		for _, c := range slices.Concat(calls.list, []impl.Call{noCalls[0], oddCall}) {
			seens := lend(k.Seens, spareSeen)
			k.Seens = seens.list
			impl.CacheOk(rules.list, k)
			next, _ := impl.CacheFind(rules.list, k, c)
			kept := slices.Clone(next.Seens)
			seens.apartFrom(t, next.Seens, spareSeen)
			k = impl.Cache{Size: next.Size, Seens: kept}
		}
		scribble(impl.CacheRun(rules.list, 4, calls.list), -7)
		calls.unchanged(t)
		rules.unchanged(t)
	}
}

// scribble writes to all of a list, spare room included.
func scribble[T any](list []T, other T) {
	list = list[:cap(list)]
	for i := range list {
		list[i] = other
	}
}
