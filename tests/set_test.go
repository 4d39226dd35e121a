package tests

import (
	"slices"
	"testing"

	"loop.example/overfare/impl"
)

// someSets is sets of all kinds, the empty one and one of SetMax blocks among them.
func someSets() [][]impl.Block {
	list := [][]impl.Block{nil, {}, {root}, {{Base: 0, Bits: 32}}, {{Base: last, Bits: 32}}, {{Base: 0, Bits: 32}, {Base: last, Bits: 32}}, {{Base: 0, Bits: 1}}, {{Base: 1 << 31, Bits: 1}},
		impl.SetSpan(1, last-1), impl.SetSpan(1, last), impl.SetSpan(0, last-1), singles(1, impl.SetMax), singles(low, 20)}
	d := newDice(201)
	for range 40 {
		list = append(list, fewest(root, shareOf(d.blocks(12))))
	}
	return list
}

// noSets is lists that are no sets, whatever else they are.
func noSets() [][]impl.Block {
	list := [][]impl.Block{
		{{Base: low, Bits: 25}, {Base: low + 128, Bits: 25}},
		{{Base: 0, Bits: 1}, {Base: 1 << 31, Bits: 1}},
		{{Base: low, Bits: 24}, {Base: low, Bits: 24}},
		{{Base: low, Bits: 24}, {Base: low + 7, Bits: 32}},
		{{Base: low, Bits: 25}, {Base: low, Bits: 24}},
		{{Base: low + 512, Bits: 24}, {Base: low, Bits: 24}},
		{{Base: last - 1, Bits: 32}, {Base: last, Bits: 32}},
		{root, root},
		singles(0, impl.SetMax+1),
	}
	for _, b := range noBlocks {
		list = append(list, []impl.Block{b}, []impl.Block{{Base: 8, Bits: 32}, b})
	}
	return list
}

// told says whether an answer is that list and true, if it is not too long, else nothing and false.
func told(list []impl.Block, ok bool, want []impl.Block) bool {
	if len(want) > impl.SetMax {
		return len(list) == 0 && !ok
	}
	return ok && slices.Equal(list, want)
}

func TestP6SetOfIsTheFewestBlocks(t *testing.T) {
	d := newDice(202)
	for range 400 {
		list := d.blocks(impl.SetMax)
		set, ok := impl.SetOf(list)
		if !told(set, ok, fewest(root, shareOf(list))) {
			t.Fatalf("SetOf(%v) is %v, %v", list, set, ok)
		}
		for i, b := range set {
			if i == 0 {
				continue
			}
			if set[i-1].Base >= b.Base || impl.BlockMeets(set[i-1], b) || impl.BlockSize(impl.BlockOver(set[i-1], b)) == impl.BlockSize(set[i-1])+impl.BlockSize(b) {
				t.Errorf("SetOf(%v) is %v", list, set)
			}
		}
		if again, ok := impl.SetOf(set); !ok || !slices.Equal(again, set) {
			t.Errorf("SetOf(%v) is %v", set, again)
		}
		for _, a := range probes(list) {
			if impl.SetHas(set, a) != anyHas(list, a) {
				t.Errorf("SetOf(%v) is %v at %d", list, set, a)
			}
		}
	}
}

func TestP6SetOfAtItsLimits(t *testing.T) {
	if set, ok := impl.SetOf(nil); len(set) != 0 || !ok {
		t.Errorf("of nothing: %v, %v", set, ok)
	}
	if set, ok := impl.SetOf(singles(0, impl.SetMax)); !told(set, ok, singles(0, impl.SetMax)) {
		t.Errorf("of SetMax: %v, %v", set, ok)
	}
	if set, ok := impl.SetOf(singles(0, impl.SetMax+1)); len(set) != 0 || ok {
		t.Errorf("of one more: %v, %v", set, ok)
	}
	if set, ok := impl.SetOf(slices.Repeat([]impl.Block{root}, impl.SetMax)); !told(set, ok, []impl.Block{root}) {
		t.Errorf("of SetMax that are one: %v, %v", set, ok)
	}
	if set, ok := impl.SetOf(slices.Repeat([]impl.Block{root}, impl.SetMax+1)); len(set) != 0 || ok {
		t.Errorf("of one more that are one: %v, %v", set, ok)
	}
	if set, ok := impl.SetOf([]impl.Block{{Base: 1 << 31, Bits: 1}, {Base: 0, Bits: 1}}); !told(set, ok, []impl.Block{root}) {
		t.Errorf("of both halves: %v, %v", set, ok)
	}
	for _, b := range noBlocks {
		if set, ok := impl.SetOf([]impl.Block{{Base: 0, Bits: 1}, b}); len(set) != 0 || ok {
			t.Errorf("SetOf %v is %v, %v", b, set, ok)
		}
	}
}

func TestP7SetOkIsSetOfItself(t *testing.T) {
	for _, list := range someSets() {
		if !impl.SetOk(list) {
			t.Errorf("%v is no set", list)
		}
	}
	for _, list := range noSets() {
		if impl.SetOk(list) {
			t.Errorf("%v is a set", list)
		}
	}
	d := newDice(203)
	for range 1000 {
		list := d.blocks(4)
		if d.below(2) == 0 {
			slices.SortFunc(list, func(a, b impl.Block) int { return a.Base - b.Base })
		}
		set, ok := impl.SetOf(list)
		if impl.SetOk(list) != (ok && slices.Equal(set, list)) {
			t.Errorf("SetOk(%v) is %v", list, impl.SetOk(list))
		}
	}
}

func TestP8SetSpanIsJustThese(t *testing.T) {
	d := newDice(204)
	ends := append([]int{3, 5, 12, low + 77}, someAddresses...)
	for range 20 {
		ends = append(ends, d.below(all))
	}
	for _, from := range ends {
		for _, to := range ends {
			set := impl.SetSpan(from, to)
			if from > to {
				if len(set) != 0 {
					t.Errorf("SetSpan(%d, %d) is %v", from, to, set)
				}
				continue
			}
			want := fewest(root, func(b impl.Block) int {
				switch {
				case from <= b.Base && endOf(b) <= to:
					return wholly
				case to < b.Base || endOf(b) < from:
					return none
				}
				return partly
			})
			if !slices.Equal(set, want) || !impl.SetOk(set) || impl.SetSize(set) != to-from+1 {
				t.Errorf("SetSpan(%d, %d) is %v", from, to, set)
			}
			if !impl.SetHas(set, from) || !impl.SetHas(set, to) || impl.SetHas(set, from-1) || impl.SetHas(set, to+1) {
				t.Errorf("ends of SetSpan(%d, %d)", from, to)
			}
		}
	}
	for _, a := range noAddresses {
		for _, x := range append(noAddresses, someAddresses...) {
			if len(impl.SetSpan(a, x)) != 0 || len(impl.SetSpan(x, a)) != 0 {
				t.Errorf("a span of %d and %d", a, x)
			}
		}
	}
}

func TestP9SetHasAndSizeAreThoseOfBlocks(t *testing.T) {
	for _, set := range someSets() {
		size := 0
		for _, b := range set {
			size += sizeOf(b)
		}
		if impl.SetSize(set) != size {
			t.Errorf("SetSize(%v) is %d", set, impl.SetSize(set))
		}
		for _, a := range probes(set) {
			if impl.SetHas(set, a) != anyHas(set, a) {
				t.Errorf("SetHas(%v, %d) is %v", set, a, impl.SetHas(set, a))
			}
		}
	}
	if impl.SetSize([]impl.Block{root}) != all {
		t.Error("all addresses")
	}
	for _, list := range noSets() {
		if impl.SetSize(list) != 0 {
			t.Errorf("SetSize(%v) is %d", list, impl.SetSize(list))
		}
		for _, a := range append(probes(), 8, low+7, low+600) {
			if impl.SetHas(list, a) {
				t.Errorf("SetHas(%v, %d)", list, a)
			}
		}
	}
}

func TestP10And11WhatTwoSetsHave(t *testing.T) {
	for _, a := range someSets() {
		for _, b := range someSets() {
			inA, inB := shareOf(a), shareOf(b)
			wantBoth := fewest(root, func(x impl.Block) int { return min(inA(x), inB(x)) })
			wantLess := fewest(root, func(x impl.Block) int { return min(inA(x), wholly-inB(x)) })
			both, ok := impl.SetBoth(a, b)
			if !told(both, ok, wantBoth) {
				t.Fatalf("SetBoth(%v, %v) is %v, %v", a, b, both, ok)
			}
			less, ok := impl.SetLess(a, b)
			if !told(less, ok, wantLess) {
				t.Fatalf("SetLess(%v, %v) is %v, %v", a, b, less, ok)
			}
			if len(wantBoth) > impl.SetMax || len(wantLess) > impl.SetMax {
				continue
			}
			for _, x := range probes(a, b) {
				hasA, hasB := impl.SetHas(a, x), impl.SetHas(b, x)
				if impl.SetHas(both, x) != (hasA && hasB) || impl.SetHas(less, x) != (hasA && !hasB) {
					t.Errorf("%d of %v and %v", x, a, b)
				}
			}
			if again, ok := impl.SetOf(slices.Concat(both, less)); len(both)+len(less) <= impl.SetMax && !told(again, ok, a) {
				t.Errorf("%v and %v are not %v", both, less, a)
			}
		}
	}
}

func TestP10SetBothAtItsLimits(t *testing.T) {
	const upper = 1 << 31
	for n := 31; n <= 34; n++ {
		a := slices.Concat([]impl.Block{{Base: 0, Bits: 1}}, singles(upper+1, n))
		b := slices.Concat(singles(1, impl.SetMax-32), []impl.Block{{Base: upper, Bits: 1}})
		both, ok := impl.SetBoth(a, b)
		if !told(both, ok, slices.Concat(singles(1, impl.SetMax-32), singles(upper+1, n))) || ok != (n <= 32) {
			t.Errorf("of %d: %d, %v", n, len(both), ok)
		}
	}
}

func TestP11SetLessAtItsLimits(t *testing.T) {
	const upper = 1 << 31
	for n := 32; n <= 35; n++ {
		a := slices.Concat([]impl.Block{{Base: 0, Bits: 1}}, singles(upper+1, n))
		less, ok := impl.SetLess(a, []impl.Block{{Base: 0, Bits: 32}})
		if !told(less, ok, slices.Concat(impl.SetSpan(1, upper-1), singles(upper+1, n))) || ok != (n <= 33) {
			t.Errorf("of %d: %d, %v", n, len(less), ok)
		}
	}
	if less, ok := impl.SetLess([]impl.Block{root}, []impl.Block{{Base: last, Bits: 32}}); !told(less, ok, impl.SetSpan(0, last-1)) {
		t.Errorf("without the last: %v, %v", less, ok)
	}
	if less, ok := impl.SetLess([]impl.Block{root}, nil); !told(less, ok, []impl.Block{root}) {
		t.Errorf("without nothing: %v, %v", less, ok)
	}
	if less, ok := impl.SetLess(nil, []impl.Block{root}); !told(less, ok, nil) {
		t.Errorf("of nothing: %v, %v", less, ok)
	}
}

func TestNoSetsHaveNothing(t *testing.T) {
	for _, list := range noSets() {
		for _, set := range append(someSets()[:13], list) {
			for _, two := range [][2][]impl.Block{{list, set}, {set, list}} {
				if x, ok := impl.SetBoth(two[0], two[1]); len(x) != 0 || ok {
					t.Errorf("SetBoth(%v, %v) is %v, %v", two[0], two[1], x, ok)
				}
				if x, ok := impl.SetLess(two[0], two[1]); len(x) != 0 || ok {
					t.Errorf("SetLess(%v, %v) is %v, %v", two[0], two[1], x, ok)
				}
			}
		}
	}
}

func TestP69BothAndLessAreTheFirst(t *testing.T) {
	for _, a := range someSets() {
		for _, b := range someSets() {
			both, okBoth := impl.SetBoth(a, b)
			less, okLess := impl.SetLess(a, b)
			if !okBoth || !okLess {
				continue
			}
			if impl.SetSize(both)+impl.SetSize(less) != impl.SetSize(a) {
				t.Errorf("%v and %v: %v, %v", a, b, both, less)
			}
			if x, ok := impl.SetBoth(both, less); len(x) != 0 || !ok {
				t.Errorf("%v and %v have %v in common", both, less, x)
			}
			if x, ok := impl.SetBoth(less, b); len(x) != 0 || !ok {
				t.Errorf("%v has %v of %v", less, x, b)
			}
		}
	}
}

func TestP70BothIsTheSameEitherWay(t *testing.T) {
	for _, a := range someSets() {
		for _, b := range someSets() {
			x, okX := impl.SetBoth(a, b)
			y, okY := impl.SetBoth(b, a)
			if okX != okY || !slices.Equal(x, y) {
				t.Errorf("%v and %v have %v, %v", a, b, x, y)
			}
		}
		if x, ok := impl.SetBoth(a, slices.Clone(a)); !told(x, ok, a) {
			t.Errorf("SetBoth of %v and itself is %v, %v", a, x, ok)
		}
		if x, ok := impl.SetLess(a, slices.Clone(a)); !told(x, ok, nil) {
			t.Errorf("SetLess of %v and itself is %v, %v", a, x, ok)
		}
	}
}

func TestP71TwoSetsTogether(t *testing.T) {
	tried := 0
	for _, a := range someSets() {
		for _, b := range someSets() {
			either, okEither := impl.SetOf(slices.Concat(a, b))
			both, okBoth := impl.SetBoth(a, b)
			if len(a)+len(b) > impl.SetMax || !okBoth {
				continue
			}
			tried++
			if !okEither || impl.SetSize(either)+impl.SetSize(both) != impl.SetSize(a)+impl.SetSize(b) {
				t.Errorf("%v and %v: %v, %v", a, b, either, both)
			}
		}
	}
	if tried < 100 {
		t.Errorf("only %d pairs were tried", tried)
	}
}

func TestSetsShareNoMemory(t *testing.T) {
	spare, other := impl.Block{Base: 77, Bits: 7}, impl.Block{Base: 1, Bits: 2}
	lists := append(someSets(), noSets()...)
	lists = append(lists, []impl.Block{{Base: low + 128, Bits: 25}, {Base: 5, Bits: 32}, {Base: low, Bits: 25}})
	for i, list := range lists {
		a, b := lend(list, spare), lend(lists[(i+5)%len(lists)], spare)
		impl.SetOk(a.list)
		impl.SetHas(a.list, 5)
		impl.SetSize(a.list)
		of, _ := impl.SetOf(a.list)
		both, _ := impl.SetBoth(a.list, b.list)
		less, _ := impl.SetLess(a.list, b.list)
		same, _ := impl.SetBoth(a.list, a.list)
		for _, answer := range [][]impl.Block{of, both, less, same} {
			a.apartFrom(t, answer, other)
			b.apartFrom(t, answer, other)
		}
	}
	x, y := impl.SetSpan(1, 9), impl.SetSpan(1, 9)
	lend(x, spare).apartFrom(t, x, other)
	if !slices.Equal(y, impl.SetSpan(1, 9)) {
		t.Error("something was kept between two calls")
	}
}
