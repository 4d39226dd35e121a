package impl

import (
	"cmp"
	"iter"
	"slices"
)

// SetMax is how many blocks a set has at most.
const SetMax = 64

// span is all addresses from one to another one.
type span struct {
	from address
	to   address
}

func (s span) has(a address) bool {
	return a >= s.from && a <= s.to
}

func (s span) size() int {
	return int(s.to-s.from) + 1
}

func (s span) both(x span) (span, bool) {
	both := span{max(s.from, x.from), min(s.to, x.to)}
	return both, both.from <= both.to
}

// front is the greatest block that a span begins with.
func (s span) front() prefix {
	b := prefix{s.from, BitMax}
	for b.bits > 0 {
		next := b.doubled()
		if next.address != s.from || next.last() > s.to {
			break
		}
		b = next
	}
	return b
}

// addressSet is all that is asked of a set, so that nobody outside hangs on how it is kept.
type addressSet interface {
	has(a address) bool
	size() int
	spans() iter.Seq[span]
	blocks() iter.Seq[prefix]
}

// spanList is spans that ascend with a gap between any two: so each is as long as can be, and its blocks need not be held against those of others.
type spanList []span

func (list spanList) has(a address) bool {
	for _, s := range list {
		if s.has(a) {
			return true
		}
	}
	return false
}

func (list spanList) size() int {
	n := 0
	for _, s := range list {
		n += s.size()
	}
	return n
}

func (list spanList) spans() iter.Seq[span] {
	return func(yield func(span) bool) {
		for _, s := range list {
			if !yield(s) {
				return
			}
		}
	}
}

func (list spanList) blocks() iter.Seq[prefix] {
	return func(yield func(prefix) bool) {
		for _, s := range list {
			for s.from <= s.to {
				b := s.front()
				if !yield(b) {
					return
				}
				s.from = b.last() + 1
			}
		}
	}
}

// setJoined is the set of all addresses of spans in any order, which may meet.
func setJoined(list []span) addressSet {
	sorted := append([]span(nil), list...)
	slices.SortFunc(sorted, func(a, b span) int {
		return cmp.Compare(a.from, b.from)
	})
	var joined spanList
	for _, s := range sorted {
		last := len(joined) - 1
		if last >= 0 && s.from <= joined[last].to+1 {
			joined[last].to = max(joined[last].to, s.to)
		} else {
			joined = append(joined, s)
		}
	}
	return joined
}

// setBoth keeps the gaps: of two pieces at least one of both sets has a gap between them.
func setBoth(a, b addressSet) addressSet {
	var list spanList
	for s := range a.spans() {
		for x := range b.spans() {
			if both, ok := s.both(x); ok {
				list = append(list, both)
			}
		}
	}
	return list
}

// setRest is all addresses that a set has not.
func setRest(set addressSet) addressSet {
	var list spanList
	from := address(0)
	for s := range set.spans() {
		if s.from > from {
			list = append(list, span{from, s.from - 1})
		}
		from = s.to + 1
	}
	if from <= AddrMax {
		list = append(list, span{from, AddrMax})
	}
	return list
}

// setTold is the blocks of a set, if they are not too many.
func setTold(set addressSet) ([]Block, bool) {
	var list []Block
	for b := range set.blocks() {
		if len(list) == SetMax {
			return nil, false
		}
		list = append(list, b.block())
	}
	return list, true
}

// setMade is the set of all addresses of blocks; false, if they are too many, or one is not ok.
func setMade(list []Block) (addressSet, bool) {
	if len(list) > SetMax {
		return nil, false
	}
	var spans []span
	for _, b := range list {
		if !BlockOk(b) {
			return nil, false
		}
		p := prefixOf(b)
		spans = append(spans, span{p.address, p.last()})
	}
	return setJoined(spans), true
}

// setRead is the set that blocks are; false, if they are none.
func setRead(list []Block) (addressSet, bool) {
	set, ok := setMade(list)
	if !ok {
		return nil, false
	}
	told, ok := setTold(set)
	return set, ok && slices.Equal(told, list)
}

// setsTold tells what two sets put together are; nothing and false, if one is none.
func setsTold(a, b []Block, together func(a, b addressSet) addressSet) ([]Block, bool) {
	first, ok := setRead(a)
	if !ok {
		return nil, false
	}
	second, ok := setRead(b)
	if !ok {
		return nil, false
	}
	return setTold(together(first, second))
}

// SetOk says whether blocks are a set: ascending, none meeting another one, none two halves of one.
func SetOk(list []Block) bool {
	_, ok := setRead(list)
	return ok
}

// SetOf is the set of all addresses of blocks.
func SetOf(list []Block) ([]Block, bool) {
	set, ok := setMade(list)
	if !ok {
		return nil, false
	}
	return setTold(set)
}

// SetSpan is the set of all addresses from one to another one.
func SetSpan(from int, to int) []Block {
	s := span{address(from), address(to)}
	if !s.from.ok() || !s.to.ok() || s.from > s.to {
		return nil
	}
	list, _ := setTold(spanList{s})
	return list
}

// SetHas says whether a set has an address.
func SetHas(list []Block, a int) bool {
	set, ok := setRead(list)
	return ok && set.has(address(a))
}

// SetSize is how many addresses a set has.
func SetSize(list []Block) int {
	set, ok := setRead(list)
	if !ok {
		return 0
	}
	return set.size()
}

// SetBoth is what two sets have in common.
func SetBoth(a []Block, b []Block) ([]Block, bool) {
	return setsTold(a, b, setBoth)
}

// SetLess is what the first has, and not the second.
func SetLess(a []Block, b []Block) ([]Block, bool) {
	return setsTold(a, b, func(first, second addressSet) addressSet {
		return setBoth(first, setRest(second))
	})
}
