package impl

import "slices"

// Limits of ways.
const (
	WayMax = 40
	HopMax = 99
)

// Way leads addresses of a block to a hop.
type Way struct {
	Block Block
	Hop   int
}

// noHop is where what no way has leads.
const noHop = -1

// wayNode is a block in a tree. Its kids are the places of its halves; 0 is none, as the root is nobody's half.
type wayNode struct {
	kids [2]int
	hop  int
}

func (n wayNode) has() bool {
	return n.hop != noHop
}

// wayTree is nodes by the bits of their blocks, the first being the block of all addresses.
type wayTree struct {
	nodes []wayNode
}

func treeOf(list []Way) *wayTree {
	t := &wayTree{nodes: []wayNode{{hop: noHop}}}
	for _, w := range list {
		t.turn(w.Block, w.Hop)
	}
	return t
}

// turn leads a block to a hop, or takes its way away with noHop.
func (t *wayTree) turn(block Block, hop int) {
	b, at := prefixOf(block), 0
	for place := range b.bits {
		side := b.bit(place)
		if t.nodes[at].kids[side] == 0 {
			t.nodes[at].kids[side] = len(t.nodes)
			t.nodes = append(t.nodes, wayNode{hop: noHop})
		}
		at = t.nodes[at].kids[side]
	}
	t.nodes[at].hop = hop
}

// path is the nodes from the root down to an address, at most so many bits of it.
func (t *wayTree) path(a address, bits int) []wayNode {
	nodes := []wayNode{t.nodes[0]}
	for place := range bits {
		at := nodes[place].kids[a.bit(place)]
		if at == 0 {
			break
		}
		nodes = append(nodes, t.nodes[at])
	}
	return nodes
}

func (t *wayTree) lead(a address) int {
	hop := noHop
	for _, n := range t.path(a, BitMax) {
		if n.has() {
			hop = n.hop
		}
	}
	return hop
}

// has says whether there is a way of just that block.
func (t *wayTree) has(block Block) bool {
	b := prefixOf(block)
	nodes := t.path(b.address, b.bits)
	return len(nodes) == b.bits+1 && nodes[b.bits].has()
}

// walk visits each way, by base and then bits, with the hop where its block would lead without it.
func (t *wayTree) walk(visit func(w Way, over int)) {
	var step func(at int, b prefix, over int)
	step = func(at int, b prefix, over int) {
		n := t.nodes[at]
		if n.has() {
			visit(Way{Block: b.block(), Hop: n.hop}, over)
			over = n.hop
		}
		for side, kid := range n.kids {
			if kid != 0 {
				step(kid, b.half(side), over)
			}
		}
	}
	step(0, prefix{0, 0}, noHop)
}

func (t *wayTree) ways() []Way {
	var list []Way
	t.walk(func(w Way, over int) {
		list = append(list, w)
	})
	return list
}

// edges is 0 and all addresses that may lead elsewhere than the one ahead, by some of the trees, ascending.
func edges(trees ...*wayTree) []address {
	list := []address{0}
	for _, t := range trees {
		t.walk(func(w Way, over int) {
			b := prefixOf(w.Block)
			list = append(list, b.address)
			if behind := b.last() + 1; behind.ok() {
				list = append(list, behind)
			}
		})
	}
	slices.Sort(list)
	return slices.Compact(list)
}

func wayOk(w Way) bool {
	return BlockOk(w.Block) && w.Hop >= 0 && w.Hop <= HopMax
}

func wayAhead(a, b Way) bool {
	if a.Block.Base != b.Block.Base {
		return a.Block.Base < b.Block.Base
	}
	return a.Block.Bits < b.Block.Bits
}

// WaysOk says whether ways are ok: by block, each block once.
func WaysOk(list []Way) bool {
	for i, w := range list {
		if !wayOk(w) || i > 0 && !wayAhead(list[i-1], w) {
			return false
		}
	}
	return len(list) <= WayMax
}

// WaysPut puts a way among others, or turns it to another hop.
func WaysPut(list []Way, w Way) ([]Way, bool) {
	if !WaysOk(list) {
		return nil, false
	}
	t := treeOf(list)
	if !wayOk(w) || len(list) == WayMax && !t.has(w.Block) {
		return t.ways(), false
	}
	t.turn(w.Block, w.Hop)
	return t.ways(), true
}

// WaysGone takes the way of a block away.
func WaysGone(list []Way, b Block) ([]Way, bool) {
	if !WaysOk(list) {
		return nil, false
	}
	t := treeOf(list)
	if !BlockOk(b) || !t.has(b) {
		return t.ways(), false
	}
	t.turn(b, noHop)
	return t.ways(), true
}

// WaysLead is the hop to which an address leads: that of the least block that has it; -1 if none has.
func WaysLead(list []Way, a int) int {
	if !WaysOk(list) || !address(a).ok() {
		return noHop
	}
	return treeOf(list).lead(address(a))
}

// WaysLess is ways that lead all addresses as these, without those that say nothing more.
func WaysLess(list []Way) []Way {
	if !WaysOk(list) {
		return nil
	}
	var less []Way
	treeOf(list).walk(func(w Way, over int) {
		if w.Hop != over {
			less = append(less, w)
		}
	})
	return less
}

// WaysTo is all addresses that lead to a hop.
func WaysTo(list []Way, hop int) ([]Block, bool) {
	if !WaysOk(list) || hop < noHop || hop > HopMax {
		return nil, false
	}
	t := treeOf(list)
	starts := edges(t)
	var spans []span
	for i, from := range starts {
		to := address(AddrMax)
		if i+1 < len(starts) {
			to = starts[i+1] - 1
		}
		if t.lead(from) == hop {
			spans = append(spans, span{from, to})
		}
	}
	return setTold(setJoined(spans))
}

// WaysDiffer is the first address that leads elsewhere by others.
func WaysDiffer(a []Way, b []Way) (int, bool) {
	if !WaysOk(a) || !WaysOk(b) {
		return 0, false
	}
	one, other := treeOf(a), treeOf(b)
	for _, from := range edges(one, other) {
		if one.lead(from) != other.lead(from) {
			return int(from), true
		}
	}
	return 0, false
}
