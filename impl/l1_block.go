// Package impl: addresses, who has them, and ways between.
package impl

import (
	"strconv"
	"strings"
)

// AddrMax is the greatest address, and BitMax how many bits one has.
const (
	AddrMax = 4294967295
	BitMax  = 32
)

// Block is all addresses that begin as Base does, with so many bits.
type Block struct {
	Base int
	Bits int
}

// address is a number that is meant as an address. It is wider than BitMax bits, so that the one behind the last does not wrap round.
type address int

func (a address) ok() bool {
	return a >= 0 && a <= AddrMax
}

func (a address) text() string {
	var parts [4]string
	for i := range parts {
		parts[i] = strconv.Itoa(int(a>>(24-8*i)) & 255)
	}
	return strings.Join(parts[:], ".")
}

// bit is the bit at a place, the highest being at 0, as blocks begin with it.
func (a address) bit(place int) int {
	return int(a>>(BitMax-1-place)) & 1
}

// prefix is a block to work with: the address that it begins with, and how many of its bits count.
type prefix struct {
	address
	bits int
}

func prefixOf(b Block) prefix {
	return prefix{address(b.Base), b.Bits}
}

func (b prefix) block() Block {
	return Block{Base: int(b.address), Bits: b.bits}
}

// ok asks for the bits ahead of the size, as others have none.
func (b prefix) ok() bool {
	return b.address.ok() && b.bits >= 0 && b.bits <= BitMax && int(b.address)%b.size() == 0
}

func (b prefix) size() int {
	return 1 << (BitMax - b.bits)
}

func (b prefix) last() address {
	return b.address + address(b.size()) - 1
}

func (b prefix) has(a address) bool {
	return a >= b.address && a <= b.last()
}

func (b prefix) holds(x prefix) bool {
	return b.has(x.address) && b.has(x.last())
}

// half is the half of a block whose next bit is side.
func (b prefix) half(side int) prefix {
	return prefix{b.address + address(side*(b.size()/2)), b.bits + 1}
}

// doubled is the block that b is a half of.
func (b prefix) doubled() prefix {
	return prefix{b.address &^ address(b.size()), b.bits - 1}
}

// numberGet reads a number from 0 to most just as it is written, so that no two texts are one number.
func numberGet(text string, most int) (int, bool) {
	if text == "" || len(text) > 1 && text[0] == '0' {
		return 0, false
	}
	n := 0
	for i := range len(text) {
		if text[i] < '0' || text[i] > '9' {
			return 0, false
		}
		n = n*10 + int(text[i]-'0')
		if n > most {
			return 0, false
		}
	}
	return n, true
}

// AddrText is an address as a text.
func AddrText(a int) string {
	if !address(a).ok() {
		return ""
	}
	return address(a).text()
}

// AddrGet reads an address.
func AddrGet(text string) (int, bool) {
	parts := strings.Split(text, ".")
	if len(parts) != 4 {
		return 0, false
	}
	a := 0
	for _, part := range parts {
		n, ok := numberGet(part, 255)
		if !ok {
			return 0, false
		}
		a = a<<8 | n
	}
	return a, true
}

// BlockOk says whether a block is ok: nothing stands behind its bits.
func BlockOk(b Block) bool {
	return prefixOf(b).ok()
}

// BlockText is a block as a text.
func BlockText(b Block) string {
	if !BlockOk(b) {
		return ""
	}
	return AddrText(b.Base) + "/" + strconv.Itoa(b.Bits)
}

// BlockGet reads a block.
func BlockGet(text string) (Block, bool) {
	front, back, _ := strings.Cut(text, "/")
	base, ok := AddrGet(front)
	if !ok {
		return Block{}, false
	}
	count, ok := numberGet(back, BitMax)
	b := Block{Base: base, Bits: count}
	if !ok || !BlockOk(b) {
		return Block{}, false
	}
	return b, true
}

// BlockSize is how many addresses a block has.
func BlockSize(b Block) int {
	if !BlockOk(b) {
		return 0
	}
	return prefixOf(b).size()
}

// BlockHas says whether a block has an address.
func BlockHas(b Block, a int) bool {
	return BlockOk(b) && prefixOf(b).has(address(a))
}

// BlockIn says whether a block has all of another one.
func BlockIn(b Block, x Block) bool {
	return BlockOk(b) && BlockOk(x) && prefixOf(b).holds(prefixOf(x))
}

// BlockMeets says whether two blocks have an address in common.
func BlockMeets(a Block, b Block) bool {
	return BlockIn(a, b) || BlockIn(b, a)
}

// BlockHalves is both halves of a block.
func BlockHalves(b Block) (Block, Block, bool) {
	if !BlockOk(b) || b.Bits == BitMax {
		return Block{}, Block{}, false
	}
	p := prefixOf(b)
	return p.half(0).block(), p.half(1).block(), true
}

// BlockOver is the least block that has two.
func BlockOver(a Block, b Block) Block {
	if !BlockOk(a) || !BlockOk(b) {
		return Block{}
	}
	over := prefixOf(a)
	for !over.holds(prefixOf(b)) {
		over = over.doubled()
	}
	return over.block()
}
