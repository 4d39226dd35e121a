package tests

import (
	"fmt"
	"regexp"
	"strings"
	"testing"

	"loop.example/overfare/impl"
)

const byteForm = `(0|[1-9][0-9]?|1[0-9][0-9]|2[0-4][0-9]|25[0-5])`

var addressForm = regexp.MustCompile(`\A(` + byteForm + `\.){3}` + byteForm + `\z`)

var blockForm = regexp.MustCompile(`\A(` + byteForm + `\.){3}` + byteForm + `/([0-9]|[12][0-9]|3[0-2])\z`)

// spoilt is a text with a byte put in, taken out, or turned.
func (d *dice) spoilt(text string) string {
	const bytes = "0123456789../-+ _x\x00\xff\n"
	at := d.below(len(text))
	put := bytes[d.below(len(bytes))]
	switch d.below(3) {
	case 0:
		return text[:at] + string([]byte{put}) + text[at:]
	case 1:
		return text[:at] + text[at+1:]
	}
	return text[:at] + string([]byte{put}) + text[at+1:]
}

func TestP1AddressIsReadBack(t *testing.T) {
	d := newDice(101)
	list := someAddresses
	for range 300 {
		list = append(list, d.below(all))
	}
	for _, a := range list {
		want := fmt.Sprintf("%d.%d.%d.%d", a>>24, a>>16&255, a>>8&255, a&255)
		if text := impl.AddrText(a); text != want {
			t.Errorf("AddrText(%d) is %q, not %q", a, text, want)
		}
		if x, ok := impl.AddrGet(want); x != a || !ok {
			t.Errorf("AddrGet(%q) is %d, %v", want, x, ok)
		}
	}
	if impl.AddrText(0) != "0.0.0.0" || impl.AddrText(last) != "255.255.255.255" {
		t.Error("the first and the last")
	}
	for _, a := range noAddresses {
		if text := impl.AddrText(a); text != "" {
			t.Errorf("AddrText(%d) is %q", a, text)
		}
	}
}

func TestP1OnlyAddressesAreRead(t *testing.T) {
	wrong := []string{"", ".", "...", "0", "0.0.0", "0.0.0.0.0", "0.0.0.0.", ".0.0.0.0", "0..0.0", "256.0.0.0", "0.0.0.256", "0.0.0.00", "01.0.0.0", "1.2.3.04", "-1.0.0.0", "+1.0.0.0", "1.2.3.-0",
		" 1.2.3.4", "1.2.3.4 ", "1.2.3.4\n", "1,2,3,4", "1.2.3.x", "0x1.2.3.4", "1.2.3.1_0", "1.2.3.\xff", "1.2.3.\u0664", "1.2.3.4\x00", "0.0.0.4294967296", "0.0.0.18446744073709551616", "1.2.3." + strings.Repeat("9", 400), strings.Repeat("1.", 400)}
	for _, text := range wrong {
		if a, ok := impl.AddrGet(text); a != 0 || ok {
			t.Errorf("AddrGet(%q) is %d, %v", text, a, ok)
		}
	}
	d := newDice(102)
	for range 5000 {
		text := d.spoilt(impl.AddrText(d.below(all)))
		a, ok := impl.AddrGet(text)
		if ok != addressForm.MatchString(text) || ok && impl.AddrText(a) != text || !ok && a != 0 {
			t.Errorf("AddrGet(%q) is %d, %v", text, a, ok)
		}
	}
}

func TestP2BlockIsReadBack(t *testing.T) {
	for _, b := range someBlocks() {
		want := fmt.Sprintf("%s/%d", impl.AddrText(b.Base), b.Bits)
		if text := impl.BlockText(b); text != want || !impl.BlockOk(b) {
			t.Errorf("BlockText(%v) is %q", b, text)
		}
		if x, ok := impl.BlockGet(want); x != b || !ok {
			t.Errorf("BlockGet(%q) is %v, %v", want, x, ok)
		}
	}
	if impl.BlockText(root) != "0.0.0.0/0" || impl.BlockText(impl.Block{Base: last, Bits: 32}) != "255.255.255.255/32" {
		t.Error("all addresses, and the last one")
	}
}

func TestP2OnlyBlocksAreRead(t *testing.T) {
	wrong := []string{"", "/", "0.0.0.0", "0.0.0.0/", "/0", "0.0.0.0/33", "0.0.0.0/00", "0.0.0.0/08", "0.0.0.0/-1", "0.0.0.0/+1", "0.0.0.0/ 1", "0.0.0.0/1/", "0.0.0.0/1/1", "0.0.0.0//1", "0.0.0.1/31", "0.0.0.1/0", "128.0.0.0/0",
		"10.0.0.128/24", "255.255.255.255/31", "256.0.0.0/8", "10.0.0/24", "10.0.0.0/24 ", "10.0.0.0/24\n", "10.0.0.0/x", "010.0.0.0/8", "0.0.0.0/18446744073709551616"}
	for _, text := range wrong {
		if b, ok := impl.BlockGet(text); b != (impl.Block{}) || ok {
			t.Errorf("BlockGet(%q) is %v, %v", text, b, ok)
		}
	}
	d := newDice(103)
	for range 5000 {
		text := d.spoilt(impl.BlockText(d.block()))
		b, ok := impl.BlockGet(text)
		if ok && (!blockForm.MatchString(text) || !impl.BlockOk(b) || impl.BlockText(b) != text) || !ok && b != (impl.Block{}) {
			t.Errorf("BlockGet(%q) is %v, %v", text, b, ok)
		}
	}
}

func TestBlocksThatAreNotOk(t *testing.T) {
	for _, b := range noBlocks {
		if impl.BlockOk(b) || impl.BlockText(b) != "" || impl.BlockSize(b) != 0 {
			t.Errorf("%v is taken as a block", b)
		}
		if x, y, ok := impl.BlockHalves(b); x != (impl.Block{}) || y != (impl.Block{}) || ok {
			t.Errorf("BlockHalves(%v) is %v, %v, %v", b, x, y, ok)
		}
		for _, a := range append(probes(), b.Base) {
			if impl.BlockHas(b, a) {
				t.Errorf("BlockHas(%v, %d)", b, a)
			}
		}
		for _, x := range append(someBlocks(), noBlocks...) {
			if impl.BlockIn(b, x) || impl.BlockIn(x, b) || impl.BlockMeets(b, x) || impl.BlockMeets(x, b) {
				t.Errorf("%v is in %v, or meets it", b, x)
			}
			if impl.BlockOver(b, x) != (impl.Block{}) || impl.BlockOver(x, b) != (impl.Block{}) {
				t.Errorf("there is a block over %v and %v", b, x)
			}
		}
	}
}

func TestBlockOkIsAMultipleOfItsSize(t *testing.T) {
	for bits := 0; bits <= 32; bits++ {
		for _, a := range someAddresses {
			b := impl.Block{Base: a, Bits: bits}
			if impl.BlockOk(b) != (blockAt(a, bits) == b) {
				t.Errorf("BlockOk(%v) is %v", b, impl.BlockOk(b))
			}
		}
	}
}

func TestP3BlockHasAsManyAsItsSize(t *testing.T) {
	for _, b := range someBlocks() {
		if impl.BlockSize(b) != sizeOf(b) {
			t.Errorf("BlockSize(%v) is %d", b, impl.BlockSize(b))
		}
		x, y, ok := impl.BlockHalves(b)
		if ok != (b.Bits < 32) {
			t.Errorf("BlockHalves(%v) is %v", b, ok)
		}
		for _, a := range probes([]impl.Block{b}) {
			has := b.Base <= a && a <= endOf(b)
			if impl.BlockHas(b, a) != has {
				t.Errorf("BlockHas(%v, %d) is %v", b, a, !has)
			}
			if ok && has == (impl.BlockHas(x, a) == impl.BlockHas(y, a)) {
				t.Errorf("%d is not in one half of %v", a, b)
			}
		}
	}
	if impl.BlockSize(root) != all || !impl.BlockHas(root, 0) || !impl.BlockHas(root, last) || impl.BlockHas(root, all) || impl.BlockHas(root, -1) {
		t.Error("the block of all addresses")
	}
	count := 0
	for a := low - 300; a < low+600; a++ {
		if impl.BlockHas(impl.Block{Base: low, Bits: 24}, a) {
			count++
		}
	}
	if count != 256 {
		t.Errorf("a block of 256 has %d", count)
	}
}

func TestP4BlockInIsFirstAndLast(t *testing.T) {
	for _, b := range someBlocks() {
		for _, x := range someBlocks() {
			in := impl.BlockIn(b, x)
			if in != covers(b, x) || in != (impl.BlockHas(b, x.Base) && impl.BlockHas(b, endOf(x))) {
				t.Errorf("BlockIn(%v, %v) is %v", b, x, in)
			}
			if in && impl.BlockSize(x) > impl.BlockSize(b) {
				t.Errorf("%v is in %v, and greater", x, b)
			}
			if (in && impl.BlockIn(x, b)) != (b == x) {
				t.Errorf("%v and %v are in each other", x, b)
			}
		}
	}
}

func TestP5BlocksMeetIfOneHasTheOther(t *testing.T) {
	for _, a := range someBlocks() {
		for _, b := range someBlocks() {
			meets := impl.BlockMeets(a, b)
			if meets != !apart(a, b) || meets != impl.BlockMeets(b, a) || meets != (impl.BlockIn(a, b) || impl.BlockIn(b, a)) {
				t.Errorf("BlockMeets(%v, %v) is %v", a, b, meets)
			}
			over := impl.BlockOver(a, b)
			if meets != (over == a || over == b) {
				t.Errorf("BlockOver(%v, %v) is %v", a, b, over)
			}
		}
	}
}

func TestP67BlockIsItsHalves(t *testing.T) {
	for _, b := range someBlocks() {
		x, y, ok := impl.BlockHalves(b)
		if !ok {
			if b.Bits != 32 || x != (impl.Block{}) || y != (impl.Block{}) {
				t.Errorf("BlockHalves(%v) is %v, %v, %v", b, x, y, ok)
			}
			continue
		}
		if x.Base != b.Base || endOf(x)+1 != y.Base || endOf(y) != endOf(b) || sizeOf(x) != sizeOf(y) || !impl.BlockOk(x) || !impl.BlockOk(y) {
			t.Errorf("BlockHalves(%v) is %v, %v", b, x, y)
		}
		if impl.BlockMeets(x, y) || !impl.BlockIn(b, x) || !impl.BlockIn(b, y) || impl.BlockOver(x, y) != b || impl.BlockOver(y, x) != b {
			t.Errorf("%v is not %v and %v", b, x, y)
		}
	}
}

func TestP68BlockOverIsTheLeast(t *testing.T) {
	for _, a := range someBlocks() {
		for _, b := range someBlocks() {
			over := impl.BlockOver(a, b)
			if !impl.BlockOk(over) || !covers(over, a) || !covers(over, b) || impl.BlockOver(b, a) != over {
				t.Errorf("BlockOver(%v, %v) is %v", a, b, over)
			}
			for bits := over.Bits + 1; bits <= 32; bits++ {
				if x := blockAt(a.Base, bits); covers(x, a) && covers(x, b) {
					t.Errorf("BlockOver(%v, %v) is %v, and %v has both", a, b, over, x)
				}
			}
		}
	}
	if impl.BlockOver(impl.Block{Base: 0, Bits: 32}, impl.Block{Base: last, Bits: 32}) != root {
		t.Error("the first and the last address")
	}
}
