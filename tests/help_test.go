package tests

import (
	"math"
	"slices"
	"testing"

	"loop.example/overfare/impl"
)

// dice throws the same numbers in each run, so that a failure comes again.
type dice struct {
	state uint64
}

func newDice(seed int) *dice {
	return &dice{uint64(seed)*0x9e3779b97f4a7c15 + 1}
}

func (d *dice) below(n int) int {
	d.state ^= d.state << 13
	d.state ^= d.state >> 7
	d.state ^= d.state << 17
	return int((d.state * 0x2545f4914f6cdd1d >> 11) % uint64(n))
}

const (
	low  = 167772160 // 10.0.0.0
	last = impl.AddrMax
	all  = impl.AddrMax + 1
)

// sizeOf and endOf are told here once more, so that the program is not held against itself.
func sizeOf(b impl.Block) int {
	return 1 << (32 - b.Bits)
}

func endOf(b impl.Block) int {
	return b.Base + sizeOf(b) - 1
}

func covers(b, x impl.Block) bool {
	return b.Base <= x.Base && endOf(x) <= endOf(b)
}

func apart(a, b impl.Block) bool {
	return endOf(a) < b.Base || endOf(b) < a.Base
}

// blockAt is the block of so many bits that has an address.
func blockAt(a, bits int) impl.Block {
	size := 1 << (32 - bits)
	return impl.Block{Base: a / size * size, Bits: bits}
}

var someAddresses = []int{0, 1, 2, 255, 256, 65535, 65536, low, low + 255, low + 256, 1<<31 - 1, 1 << 31, last - 255, last - 1, last}

var noAddresses = []int{-1, -256, last + 1, last + 2, 1 << 33, math.MinInt, math.MaxInt}

var noBlocks = []impl.Block{
	{Base: -1, Bits: 32}, {Base: -256, Bits: 24}, {Base: all, Bits: 32}, {Base: all, Bits: 0}, {Base: 0, Bits: -1}, {Base: 0, Bits: 33}, {Base: 0, Bits: 64},
	{Base: 1, Bits: 31}, {Base: 1, Bits: 0}, {Base: 1 << 31, Bits: 0}, {Base: last, Bits: 31}, {Base: low + 1, Bits: 24}, {Base: low + 128, Bits: 24},
	{Base: math.MinInt, Bits: 0}, {Base: math.MaxInt, Bits: 32}, {Base: 0, Bits: math.MinInt}, {Base: 0, Bits: math.MaxInt}, {Base: math.MinInt, Bits: math.MaxInt},
}

// someBlocks is blocks of all sizes around the edges, and some others.
func someBlocks() []impl.Block {
	var list []impl.Block
	for bits := 0; bits <= 32; bits++ {
		for _, a := range []int{0, low, last} {
			list = append(list, blockAt(a, bits))
		}
	}
	d := newDice(1)
	for range 30 {
		list = append(list, d.block())
	}
	return list
}

func (d *dice) block() impl.Block {
	return blockAt(d.below(all), d.below(33))
}

// near is a block within 64 addresses, so that several meet.
func (d *dice) near(window int) impl.Block {
	return blockAt(window+d.below(64), 26+d.below(7))
}

var windows = []int{0, low, 1<<31 - 64, 1 << 31, last - 63}

// blocks is several blocks, all near each other or from anywhere.
func (d *dice) blocks(most int) []impl.Block {
	var list []impl.Block
	window := windows[d.below(len(windows))]
	for range d.below(most + 1) {
		if d.below(5) == 0 {
			list = append(list, d.block())
		} else {
			list = append(list, d.near(window))
		}
	}
	return list
}

// singles is n blocks of one address, none beside another one.
func singles(from, n int) []impl.Block {
	var list []impl.Block
	for i := range n {
		list = append(list, impl.Block{Base: from + 2*i, Bits: 32})
	}
	return list
}

// How much of a block something has.
const (
	none = iota
	partly
	wholly
)

var root = impl.Block{Base: 0, Bits: 0}

// fewest is the fewest blocks of which share says that they are had wholly, looked for from above.
func fewest(node impl.Block, share func(impl.Block) int) []impl.Block {
	switch share(node) {
	case none:
		return nil
	case wholly:
		return []impl.Block{node}
	}
	lower := impl.Block{Base: node.Base, Bits: node.Bits + 1}
	upper := impl.Block{Base: node.Base + sizeOf(lower), Bits: node.Bits + 1}
	list := append(fewest(lower, share), fewest(upper, share)...)
	if slices.Equal(list, []impl.Block{lower, upper}) {
		return []impl.Block{node}
	}
	return list
}

// shareOf is how much of a block several have.
func shareOf(list []impl.Block) func(impl.Block) int {
	return func(node impl.Block) int {
		share := none
		for _, b := range list {
			if covers(b, node) {
				return wholly
			}
			if !apart(b, node) {
				share = partly
			}
		}
		return share
	}
}

// probes is the ends of blocks and their neighbours, addresses or not.
func probes(lists ...[]impl.Block) []int {
	list := slices.Concat(someAddresses, noAddresses)
	for _, blocks := range lists {
		for _, b := range blocks {
			list = append(list, b.Base-1, b.Base, b.Base+sizeOf(b)/2, endOf(b), endOf(b)+1)
		}
	}
	slices.Sort(list)
	return slices.Compact(list)
}

func anyHas(list []impl.Block, a int) bool {
	return slices.ContainsFunc(list, func(b impl.Block) bool { return b.Base <= a && a <= endOf(b) })
}

// lent is a list with room behind its end that is not to be written to.
type lent[T comparable] struct {
	list  []T
	whole []T
	was   []T
}

func lend[T comparable](list []T, spare T) lent[T] {
	whole := slices.Concat(list, []T{spare, spare, spare, spare})
	return lent[T]{whole[:len(list)], whole, slices.Clone(whole)}
}

func (l lent[T]) unchanged(t *testing.T) {
	t.Helper()
	if !slices.Equal(l.whole, l.was) {
		t.Errorf("an argument was changed from %v to %v", l.was, l.whole)
	}
}

// apartFrom says whether an answer, spare room included, shares no memory with what was lent.
func (l lent[T]) apartFrom(t *testing.T, answer []T, other T) {
	t.Helper()
	l.unchanged(t)
	room := answer[:cap(answer)]
	for i := range room {
		room[i] = other
	}
	l.unchanged(t)
}
