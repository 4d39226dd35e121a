package tests

import (
	"cmp"
	"math"
	"slices"
	"testing"

	"loop.example/overfare/impl"
)

func way(base, bits, hop int) impl.Way {
	return impl.Way{Block: impl.Block{Base: base, Bits: bits}, Hop: hop}
}

// inOrder is ways by base and bits, the first of each block.
func inOrder(list []impl.Way) []impl.Way {
	list = slices.Clone(list)
	slices.SortStableFunc(list, func(a, b impl.Way) int {
		return cmp.Or(cmp.Compare(a.Block.Base, b.Block.Base), cmp.Compare(a.Block.Bits, b.Block.Bits))
	})
	return slices.CompactFunc(list, func(a, b impl.Way) bool { return a.Block == b.Block })
}

// ways is ways that are ok, with few hops, so that several lead the same way.
func (d *dice) ways(most int) []impl.Way {
	var list []impl.Way
	for _, b := range d.blocks(most) {
		hop := d.below(3)
		if hop == 2 {
			hop = impl.HopMax
		}
		list = append(list, impl.Way{Block: b, Hop: hop})
	}
	return inOrder(list)
}

// apartWays is n ways, of one address each, none within another one.
func apartWays(n int) []impl.Way {
	var list []impl.Way
	for i, b := range singles(low, n) {
		list = append(list, impl.Way{Block: b, Hop: i % 7})
	}
	return list
}

func someWays() [][]impl.Way {
	list := [][]impl.Way{
		nil, {}, {way(0, 0, 5)}, {way(0, 32, 0)}, {way(last, 32, impl.HopMax)}, {way(0, 0, 1), way(0, 32, 2), way(last, 32, 2)},
		{way(0, 0, 1), way(0, 1, 1), way(0, 2, 2), way(0, 3, 2), way(0, 4, 1)},
		{way(0, 1, 3), way(1<<31, 1, 3)}, {way(0, 0, 4), way(0, 1, 3), way(1<<31, 1, 3)},
		{way(low, 8, 1), way(low, 24, 2), way(low, 25, 2), way(low+128, 26, 1)},
		apartWays(impl.WayMax), append([]impl.Way{way(0, 0, 3)}, apartWays(impl.WayMax-1)...),
	}
	d := newDice(301)
	for range 60 {
		list = append(list, d.ways(12))
	}
	for range 5 {
		list = append(list, d.ways(impl.WayMax))
	}
	return list
}

func noWays() [][]impl.Way {
	list := [][]impl.Way{
		{way(0, 0, -1)}, {way(0, 0, impl.HopMax+1)}, {way(0, 0, math.MinInt)}, {way(0, 0, math.MaxInt)},
		{way(0, 0, 1), way(0, 0, 1)}, {way(0, 0, 1), way(0, 0, 2)}, {way(0, 1, 1), way(0, 0, 1)}, {way(low, 24, 1), way(0, 32, 1)},
		apartWays(impl.WayMax + 1),
	}
	for _, b := range noBlocks {
		list = append(list, []impl.Way{{Block: b, Hop: 1}}, []impl.Way{way(0, 0, 2), {Block: b, Hop: 1}})
	}
	return list
}

// ledBy is where an address leads, looked for among all ways.
func ledBy(list []impl.Way, a int) int {
	hop, most := -1, -1
	for _, w := range list {
		if w.Block.Base <= a && a <= endOf(w.Block) && w.Block.Bits > most {
			hop, most = w.Hop, w.Block.Bits
		}
	}
	return hop
}

func blocksOf(list []impl.Way) []impl.Block {
	var blocks []impl.Block
	for _, w := range list {
		blocks = append(blocks, w.Block)
	}
	return blocks
}

// starts is all addresses from which on ways may lead elsewhere, ascending.
func starts(lists ...[]impl.Way) []int {
	list := []int{0}
	for _, ways := range lists {
		for _, w := range ways {
			list = append(list, w.Block.Base)
			if endOf(w.Block) < last {
				list = append(list, endOf(w.Block)+1)
			}
		}
	}
	slices.Sort(list)
	return slices.Compact(list)
}

func without(list []impl.Way, b impl.Block) []impl.Way {
	return slices.DeleteFunc(slices.Clone(list), func(w impl.Way) bool { return w.Block == b })
}

// above is the least way, greater than that block, that has it.
func above(list []impl.Way, b impl.Block) (impl.Way, bool) {
	found, ok := impl.Way{}, false
	for _, w := range list {
		if w.Block.Bits < b.Bits && covers(w.Block, b) && (!ok || w.Block.Bits > found.Block.Bits) {
			found, ok = w, true
		}
	}
	return found, ok
}

// lesserHas says whether a way within that block, and less than it, has an address.
func lesserHas(list []impl.Way, b impl.Block, a int) bool {
	return slices.ContainsFunc(list, func(w impl.Way) bool {
		return w.Block != b && covers(b, w.Block) && w.Block.Base <= a && a <= endOf(w.Block)
	})
}

func TestWaysOk(t *testing.T) {
	for _, list := range someWays() {
		if !impl.WaysOk(list) {
			t.Errorf("%v are not ok", list)
		}
	}
	for _, list := range noWays() {
		if impl.WaysOk(list) {
			t.Errorf("%v are ok", list)
		}
	}
}

func TestWaysThatAreNotOk(t *testing.T) {
	for _, list := range noWays() {
		if x, ok := impl.WaysPut(list, way(low, 24, 1)); len(x) != 0 || ok {
			t.Errorf("WaysPut(%v) is %v, %v", list, x, ok)
		}
		if x, ok := impl.WaysGone(list, list[0].Block); len(x) != 0 || ok {
			t.Errorf("WaysGone(%v) is %v, %v", list, x, ok)
		}
		if x := impl.WaysLess(list); len(x) != 0 {
			t.Errorf("WaysLess(%v) is %v", list, x)
		}
		for _, a := range append(someAddresses, list[0].Block.Base) {
			if hop := impl.WaysLead(list, a); hop != -1 {
				t.Errorf("WaysLead(%v, %d) is %d", list, a, hop)
			}
		}
		for _, hop := range []int{-1, 0, 1, 2} {
			if x, ok := impl.WaysTo(list, hop); len(x) != 0 || ok {
				t.Errorf("WaysTo(%v, %d) is %v, %v", list, hop, x, ok)
			}
		}
		for _, other := range [][]impl.Way{nil, {way(0, 0, 7)}, list} {
			if a, ok := impl.WaysDiffer(list, other); a != 0 || ok {
				t.Errorf("WaysDiffer(%v, %v) is %d, %v", list, other, a, ok)
			}
			if a, ok := impl.WaysDiffer(other, list); a != 0 || ok {
				t.Errorf("WaysDiffer(%v, %v) is %d, %v", other, list, a, ok)
			}
		}
	}
}

func TestP12WayThatWasPutLeads(t *testing.T) {
	d := newDice(302)
	for _, list := range someWays() {
		for i := range 20 {
			w := impl.Way{Block: d.near(windows[d.below(len(windows))]), Hop: d.below(impl.HopMax + 1)}
			if i < len(list) {
				w.Block = list[i].Block
			}
			there := slices.ContainsFunc(list, func(x impl.Way) bool { return x.Block == w.Block })
			more, ok := impl.WaysPut(list, w)
			if len(list) == impl.WayMax && !there {
				if ok || !slices.Equal(more, list) {
					t.Errorf("one too many: %v, %v", more, ok)
				}
				continue
			}
			if want := inOrder(append([]impl.Way{w}, list...)); !ok || !slices.Equal(more, want) {
				t.Fatalf("WaysPut(%v, %v) is %v, %v", list, w, more, ok)
			}
			for _, a := range starts(list, more) {
				want := ledBy(list, a)
				if impl.BlockHas(w.Block, a) && !lesserHas(list, w.Block, a) {
					want = w.Hop
				}
				if hop := impl.WaysLead(more, a); hop != want {
					t.Errorf("with %v put to %v %d leads to %d, not %d", w, list, a, hop, want)
				}
			}
			back, ok := impl.WaysGone(more, w.Block)
			if !ok || !slices.Equal(back, without(list, w.Block)) {
				t.Errorf("WaysGone(%v, %v) is %v, %v", more, w.Block, back, ok)
			}
		}
	}
}

func TestP12WaysPutAtItsLimits(t *testing.T) {
	full := apartWays(impl.WayMax)
	if more, ok := impl.WaysPut(full[:impl.WayMax-1], full[impl.WayMax-1]); !ok || !slices.Equal(more, full) {
		t.Errorf("the last that there may be: %v, %v", more, ok)
	}
	if more, ok := impl.WaysPut(full, way(0, 0, 1)); ok || !slices.Equal(more, full) {
		t.Errorf("one too many: %v, %v", more, ok)
	}
	turned := slices.Clone(full)
	turned[7].Hop = impl.HopMax
	if more, ok := impl.WaysPut(full, turned[7]); !ok || !slices.Equal(more, turned) {
		t.Errorf("turned elsewhere: %v, %v", more, ok)
	}
	for _, list := range [][]impl.Way{nil, full[:3], full} {
		for _, b := range noBlocks {
			if more, ok := impl.WaysPut(list, impl.Way{Block: b, Hop: 1}); ok || !slices.Equal(more, list) {
				t.Errorf("WaysPut of %v: %v, %v", b, more, ok)
			}
		}
		for _, hop := range []int{-1, impl.HopMax + 1, math.MinInt, math.MaxInt} {
			if more, ok := impl.WaysPut(list, way(low, 32, hop)); ok || !slices.Equal(more, list) {
				t.Errorf("WaysPut of hop %d: %v, %v", hop, more, ok)
			}
		}
	}
}

func TestP13WayThatIsGoneLeadsNothing(t *testing.T) {
	d := newDice(303)
	for _, list := range someWays() {
		for _, b := range append(blocksOf(list), append(noBlocks, root, d.block())...) {
			less, ok := impl.WaysGone(list, b)
			if ok != slices.Contains(blocksOf(list), b) || !slices.Equal(less, without(list, b)) {
				t.Fatalf("WaysGone(%v, %v) is %v, %v", list, b, less, ok)
			}
			if again, ok := impl.WaysGone(less, b); ok || !slices.Equal(again, less) {
				t.Errorf("again: WaysGone(%v, %v) is %v, %v", less, b, again, ok)
			}
			for _, a := range starts(list) {
				if !impl.BlockHas(b, a) && impl.WaysLead(less, a) != impl.WaysLead(list, a) {
					t.Errorf("without %v %d leads elsewhere by %v", b, a, list)
				}
			}
		}
	}
}

func TestP14LongestBeginningLeads(t *testing.T) {
	for _, list := range someWays() {
		for _, a := range probes(blocksOf(list)) {
			want := -1
			if a >= 0 && a <= last {
				want = ledBy(list, a)
			}
			if hop := impl.WaysLead(list, a); hop != want {
				t.Errorf("WaysLead(%v, %d) is %d, not %d", list, a, hop, want)
			}
		}
	}
}

func TestP15And73WaysLessLeadAsTheyDid(t *testing.T) {
	for _, list := range someWays() {
		var want []impl.Way
		for _, w := range list {
			if over, ok := above(list, w.Block); !ok || over.Hop != w.Hop {
				want = append(want, w)
			}
		}
		less := impl.WaysLess(list)
		if !slices.Equal(less, want) || !impl.WaysOk(less) {
			t.Fatalf("WaysLess(%v) is %v", list, less)
		}
		if again := impl.WaysLess(less); !slices.Equal(again, less) {
			t.Errorf("again: WaysLess(%v) is %v", less, again)
		}
		if a, ok := impl.WaysDiffer(list, less); a != 0 || ok {
			t.Errorf("WaysLess(%v) leads %d elsewhere", list, a)
		}
		for _, w := range less {
			if impl.WaysLead(less, w.Block.Base) != impl.WaysLead(list, w.Block.Base) || impl.WaysLead(less, endOf(w.Block)) != impl.WaysLead(list, endOf(w.Block)) {
				t.Errorf("WaysLess(%v) leads %v elsewhere", list, w.Block)
			}
			if slices.ContainsFunc(less, func(x impl.Way) bool { return x.Block != w.Block && covers(w.Block, x.Block) }) {
				continue
			}
			if _, ok := impl.WaysDiffer(list, without(less, w.Block)); !ok {
				t.Errorf("WaysLess(%v) is %v, and %v can go", list, less, w)
			}
		}
	}
}

func TestP15WayWithinOneThatLeadsTheSameWay(t *testing.T) {
	for _, two := range [][2][]impl.Way{
		{{way(0, 0, 1), way(0, 1, 1), way(0, 2, 2), way(0, 3, 2), way(0, 4, 1)}, {way(0, 0, 1), way(0, 2, 2), way(0, 4, 1)}},
		{{way(0, 0, 1), way(last, 32, 1)}, {way(0, 0, 1)}},
		{{way(0, 0, 0), way(0, 32, 0)}, {way(0, 0, 0)}},
		{{way(0, 0, 1), way(0, 1, 2), way(0, 8, 1)}, {way(0, 0, 1), way(0, 1, 2), way(0, 8, 1)}},
		{{way(0, 1, 3), way(1<<31, 1, 3)}, {way(0, 1, 3), way(1<<31, 1, 3)}},
		{{way(0, 0, 4), way(0, 1, 3), way(1<<31, 1, 3)}, {way(0, 0, 4), way(0, 1, 3), way(1<<31, 1, 3)}},
	} {
		if less := impl.WaysLess(two[0]); !slices.Equal(less, two[1]) {
			t.Errorf("WaysLess(%v) is %v", two[0], less)
		}
	}
}

func TestP16EachAddressLeadsToOneHop(t *testing.T) {
	for _, list := range someWays() {
		count, fits := 0, true
		for hop := -1; hop <= impl.HopMax; hop++ {
			want := fewest(root, func(node impl.Block) int {
				for _, w := range list {
					if w.Block != node && covers(node, w.Block) {
						return partly
					}
				}
				if ledBy(list, node.Base) == hop {
					return wholly
				}
				return none
			})
			set, ok := impl.WaysTo(list, hop)
			if !told(set, ok, want) {
				t.Fatalf("WaysTo(%v, %d) is %v, %v", list, hop, set, ok)
			}
			fits = fits && ok
			count += impl.SetSize(set)
			for _, a := range starts(list) {
				if ok && impl.SetHas(set, a) != (impl.WaysLead(list, a) == hop) {
					t.Errorf("WaysTo(%v, %d) at %d", list, hop, a)
				}
			}
		}
		if fits && count != all {
			t.Errorf("by %v %d addresses are led", list, count)
		}
		for _, hop := range []int{-2, impl.HopMax + 1, math.MinInt, math.MaxInt} {
			if set, ok := impl.WaysTo(list, hop); len(set) != 0 || ok {
				t.Errorf("WaysTo(%v, %d) is %v, %v", list, hop, set, ok)
			}
		}
	}
}

func TestP16WaysToAtItsLimits(t *testing.T) {
	for n := 32; n <= 35; n++ {
		list := []impl.Way{way(0, 1, 1), way(0, 32, 2)}
		for _, b := range singles(1<<31, n) {
			list = append(list, impl.Way{Block: b, Hop: 1})
		}
		set, ok := impl.WaysTo(list, 1)
		if !told(set, ok, slices.Concat(impl.SetSpan(1, 1<<31-1), singles(1<<31, n))) || ok != (n <= 33) {
			t.Errorf("of %d: %d, %v", n, len(set), ok)
		}
	}
	if set, ok := impl.WaysTo(nil, -1); !told(set, ok, []impl.Block{root}) {
		t.Errorf("without ways: %v, %v", set, ok)
	}
	if set, ok := impl.WaysTo(nil, 0); !told(set, ok, nil) {
		t.Errorf("to a hop, without ways: %v, %v", set, ok)
	}
}

func TestP17WaysDifferIsTheLeastAddress(t *testing.T) {
	for _, a := range someWays() {
		if x, ok := impl.WaysDiffer(a, slices.Clone(a)); x != 0 || ok {
			t.Errorf("WaysDiffer of %v and itself is %d, %v", a, x, ok)
		}
		for _, b := range someWays() {
			want, differ := 0, false
			for _, x := range starts(a, b) {
				if ledBy(a, x) != ledBy(b, x) {
					want, differ = x, true
					break
				}
			}
			x, ok := impl.WaysDiffer(a, b)
			if x != want || ok != differ {
				t.Fatalf("WaysDiffer(%v, %v) is %d, %v", a, b, x, ok)
			}
			if y, again := impl.WaysDiffer(b, a); y != x || again != ok {
				t.Errorf("WaysDiffer(%v, %v) is %d, %v", b, a, y, again)
			}
			if ok && impl.WaysLead(a, x) == impl.WaysLead(b, x) || ok && x > 0 && impl.WaysLead(a, x-1) != impl.WaysLead(b, x-1) {
				t.Errorf("WaysDiffer(%v, %v) is %d", a, b, x)
			}
		}
	}
	for _, c := range []struct {
		a, b []impl.Way
		at   int
	}{
		{nil, []impl.Way{way(0, 0, 0)}, 0},
		{nil, []impl.Way{way(last, 32, 0)}, last},
		{[]impl.Way{way(0, 0, 1)}, []impl.Way{way(0, 0, 1), way(last, 32, 0)}, last},
		{[]impl.Way{way(0, 0, 1)}, []impl.Way{way(0, 1, 1)}, 1 << 31},
	} {
		if x, ok := impl.WaysDiffer(c.a, c.b); x != c.at || !ok {
			t.Errorf("WaysDiffer(%v, %v) is %d, %v", c.a, c.b, x, ok)
		}
	}
}

func TestP72WayThatIsPutBack(t *testing.T) {
	for _, list := range someWays() {
		for _, w := range list {
			less, _ := impl.WaysGone(list, w.Block)
			if back, ok := impl.WaysPut(less, w); !ok || !slices.Equal(back, list) {
				t.Errorf("put back to %v: %v, %v", less, back, ok)
			}
			turned, _ := impl.WaysPut(list, impl.Way{Block: w.Block, Hop: (w.Hop + 1) % impl.HopMax})
			if slices.Equal(turned, list) {
				t.Errorf("%v of %v was not turned", w, list)
			}
			if back, ok := impl.WaysPut(turned, w); !ok || !slices.Equal(back, list) {
				t.Errorf("turned back in %v: %v, %v", turned, back, ok)
			}
		}
	}
}

func TestWaysShareNoMemory(t *testing.T) {
	spare, other := way(77, 7, 7), way(1, 2, 3)
	lists := append(someWays(), noWays()...)
	for i, list := range lists {
		a, b := lend(list, spare), lend(lists[(i+3)%len(lists)], spare)
		impl.WaysOk(a.list)
		impl.WaysLead(a.list, low)
		impl.WaysDiffer(a.list, b.list)
		impl.WaysTo(a.list, 1)
		impl.WaysTo(a.list, -1)
		answers := [][]impl.Way{impl.WaysLess(a.list)}
		for _, w := range []impl.Way{way(low, 8, 9), way(low+1, 8, 9), way(low, 8, 100), way(low+2, 32, 50)} {
			put, _ := impl.WaysPut(a.list, w)
			gone, _ := impl.WaysGone(a.list, w.Block)
			answers = append(answers, put, gone)
		}
		b.unchanged(t)
		for _, answer := range answers {
			a.apartFrom(t, answer, other)
		}
	}
}
