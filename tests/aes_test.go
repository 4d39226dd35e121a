package tests

import (
	"crypto/aes"
	"crypto/cipher"
	"encoding/hex"
	"slices"
	"strings"
	"testing"

	"loop.example/overfare/impl"
)

// What FIPS 197 tells: the key and the bytes of its appendix C, and those of its appendix B.
const (
	fipsKey   = "000102030405060708090a0b0c0d0e0f"
	fipsText  = "00112233445566778899aabbccddeeff"
	fipsPut   = "69c4e0d86a7b0430d8cdb78070b4c55a"
	otherKey  = "2b7e151628aed2a6abf7158809cf4f3c"
	otherText = "3243f6a8885a308d313198a2e0370734"
	otherPut  = "3925841d02dc09fbdc118597196a0b32"
)

// bytesIn is the bytes that stand in figures.
func bytesIn(figures string) string {
	list, err := hex.DecodeString(figures)
	if err != nil {
		panic(err)
	}
	return string(list)
}

func (d *dice) bytes(n int) string {
	list := make([]byte, n)
	for i := range list {
		list[i] = byte(d.below(256))
	}
	return string(list)
}

// someTexts is texts of 16 bytes: all of one byte, of one bit, and others. Of one byte there is each, so that all of the table is asked.
func someTexts(d *dice) []string {
	list := []string{bytesIn(fipsKey), bytesIn(fipsText), bytesIn(otherKey), bytesIn(otherText), "sixteen \xff bytes\x00"}
	for b := range 256 {
		list = append(list, strings.Repeat(string([]byte{byte(b)}), 16))
	}
	for bit := range 128 {
		list = append(list, turnedAt(strings.Repeat("\x00", 16), bit/8, 1<<(bit%8)))
	}
	for range 100 {
		list = append(list, d.bytes(16))
	}
	return list
}

// turnedAt is a text with one byte put together with another one.
func turnedAt(text string, at int, with byte) string {
	list := []byte(text)
	list[at] ^= with
	return string(list)
}

// noSixteen is how many bytes a key, a beginning or a text of one block does not have.
var noSixteen = []int{0, 1, 8, 15, 17, 24, 31, 32, 33, 160, 1000}

func libraryPut(key, text string) string {
	c, err := aes.NewCipher([]byte(key))
	if err != nil {
		panic(err)
	}
	to := make([]byte, 16)
	c.Encrypt(to, []byte(text))
	return string(to)
}

func TestP27TurnedAsTheWholeWorldTurns(t *testing.T) {
	for _, c := range [][3]string{{fipsKey, fipsText, fipsPut}, {otherKey, otherText, otherPut}} {
		key, text, put := bytesIn(c[0]), bytesIn(c[1]), bytesIn(c[2])
		if impl.AesPut(key, text) != put || impl.AesGet(key, put) != text {
			t.Errorf("by %s %s is turned to %x, and %s back to %x", c[0], c[1], impl.AesPut(key, text), c[2], impl.AesGet(key, put))
		}
	}
	d := newDice(601)
	for _, text := range someTexts(d) {
		for _, key := range []string{bytesIn(fipsKey), d.bytes(16), text} {
			if put := impl.AesPut(key, text); put != libraryPut(key, text) {
				t.Fatalf("AesPut(%x, %x) is %x, not %x", key, text, put, libraryPut(key, text))
			}
		}
	}
}

func TestP27OthersAreNotTurned(t *testing.T) {
	d := newDice(602)
	fine := d.bytes(16)
	for _, n := range noSixteen {
		other := d.bytes(n)
		for _, pair := range [][2]string{{other, fine}, {fine, other}, {other, other}} {
			if s := impl.AesPut(pair[0], pair[1]); s != "" {
				t.Errorf("AesPut(%x, %x) is %x", pair[0], pair[1], s)
			}
			if s := impl.AesGet(pair[0], pair[1]); s != "" {
				t.Errorf("AesGet(%x, %x) is %x", pair[0], pair[1], s)
			}
		}
	}
}

func TestP28TurnedBack(t *testing.T) {
	d := newDice(603)
	for _, text := range someTexts(d) {
		for _, key := range []string{d.bytes(16), text} {
			if back := impl.AesGet(key, impl.AesPut(key, text)); back != text {
				t.Errorf("AesGet(%x, AesPut) of %x is %x", key, text, back)
			}
			if back := impl.AesPut(key, impl.AesGet(key, text)); back != text {
				t.Errorf("AesPut(%x, AesGet) of %x is %x", key, text, back)
			}
		}
	}
}

func TestP29UnlikeTextsStayUnlike(t *testing.T) {
	d := newDice(604)
	for _, key := range []string{bytesIn(fipsKey), d.bytes(16), strings.Repeat("\x00", 16)} {
		texts := someTexts(d)
		texts = append(texts, texts[:20]...)
		from := map[string]string{}
		for _, text := range texts {
			put := impl.AesPut(key, text)
			if was, there := from[put]; len(put) != 16 || there && was != text {
				t.Errorf("by %x %x and %x are turned to %x", key, was, text, put)
			}
			if impl.AesPut(key, text) != put {
				t.Errorf("by %x %x is turned to %x, and then otherwise", key, text, put)
			}
			from[put] = text
		}
	}
}

// fieldTimes is the product of two bytes: all bits first, and what is above the eighth taken away then.
func fieldTimes(a, b int) int {
	product := 0
	for i := range 8 {
		product ^= (b >> i & 1) * a << i
	}
	for i := 14; i >= 8; i-- {
		product ^= (product >> i & 1) * 0x11b << (i - 8)
	}
	return product
}

// tableAt is what the table turns a byte to, its inverse being looked for.
func tableAt(b byte) byte {
	inverse := 0
	for i := range 256 {
		if fieldTimes(int(b), i) == 1 {
			inverse = i
		}
	}
	sum := 0x63
	for by := range 5 {
		sum ^= inverse<<by&255 | inverse>>(8-by)
	}
	return byte(sum)
}

func TestP30KeysOfAllRounds(t *testing.T) {
	d := newDice(605)
	for _, key := range someTexts(d) {
		keys := impl.AesKeys(key)
		if len(keys) != 176 || keys[:16] != key {
			t.Fatalf("AesKeys(%x) is %x", key, keys)
		}
		first := 1
		for at := 16; at < 176; at += 4 {
			put := []byte(keys[at-4 : at])
			if at%16 == 0 {
				put = []byte{tableAt(put[1]) ^ byte(first), tableAt(put[2]), tableAt(put[3]), tableAt(put[0])}
				first = fieldTimes(first, 2)
			}
			for i := range put {
				put[i] ^= keys[at-16+i]
			}
			if keys[at:at+4] != string(put) {
				t.Fatalf("at %d AesKeys(%x) has %x, not %x", at, key, keys[at:at+4], put)
			}
		}
	}
	if keys := impl.AesKeys(bytesIn(otherKey)); !strings.HasSuffix(keys, bytesIn("d014f9a8c9ee2589e13f0cc8b6630ca6")) {
		t.Errorf("the keys of FIPS 197 are %x", keys)
	}
	for _, n := range noSixteen {
		if keys := impl.AesKeys(d.bytes(n)); keys != "" {
			t.Errorf("of %d bytes AesKeys is %x", n, keys)
		}
	}
}

func libraryChain(key, begin, text string, mode func(cipher.Block, []byte) cipher.BlockMode) string {
	c, err := aes.NewCipher([]byte(key))
	if err != nil {
		panic(err)
	}
	list := []byte(text)
	mode(c, []byte(begin)).CryptBlocks(list, list)
	return string(list)
}

func TestP31ChainComesBack(t *testing.T) {
	d := newDice(606)
	for blocks := range 21 {
		for range 6 {
			key, begin, text := d.bytes(16), d.bytes(16), d.bytes(16*blocks)
			put, got := impl.ChainPut(key, begin, text), impl.ChainGet(key, begin, text)
			if want := libraryChain(key, begin, text, cipher.NewCBCEncrypter); put != want {
				t.Fatalf("ChainPut(%x, %x, %x) is %x, not %x", key, begin, text, put, want)
			}
			if want := libraryChain(key, begin, text, cipher.NewCBCDecrypter); got != want {
				t.Fatalf("ChainGet(%x, %x, %x) is %x, not %x", key, begin, text, got, want)
			}
			if impl.ChainGet(key, begin, put) != text || impl.ChainPut(key, begin, got) != text {
				t.Errorf("by %x and %x %x does not come back", key, begin, text)
			}
			few := 16 * d.below(blocks+1)
			if impl.ChainPut(key, begin, text[:few]) != put[:few] || impl.ChainGet(key, begin, text[:few]) != got[:few] {
				t.Errorf("by %x and %x %d bytes of %x begin otherwise", key, begin, few, text)
			}
		}
	}
}

func TestP31OneBlockAlike(t *testing.T) {
	key, text := bytesIn(fipsKey), bytesIn(fipsText)
	none := strings.Repeat("\x00", 16)
	if put := impl.ChainPut(key, none, text+impl.AesPut(key, text)); put != bytesIn(fipsPut)+impl.AesPut(key, none) {
		t.Errorf("the chain is %x", put)
	}
	if put := impl.ChainPut(key, text, text); put != impl.AesPut(key, none) {
		t.Errorf("the block is %x", put)
	}
}

func TestP31WhatIsNoChain(t *testing.T) {
	d := newDice(607)
	key, begin, text := d.bytes(16), d.bytes(16), d.bytes(320)
	refused := func(key, begin, text string) {
		t.Helper()
		if put := impl.ChainPut(key, begin, text); put != "" {
			t.Errorf("of %d, %d, %d bytes ChainPut is %x", len(key), len(begin), len(text), put)
		}
		if got := impl.ChainGet(key, begin, text); got != "" {
			t.Errorf("of %d, %d, %d bytes ChainGet is %x", len(key), len(begin), len(text), got)
		}
	}
	for _, n := range noSixteen {
		refused(d.bytes(n), begin, text)
		refused(key, d.bytes(n), text)
		refused(d.bytes(n), d.bytes(n), text[:16])
	}
	for _, n := range []int{1, 15, 17, 31, 33, 303, 305, 319, 321, 335, 336, 337, 352, 4096} {
		refused(key, begin, d.bytes(n))
	}
	if len(impl.ChainPut(key, begin, text)) != 320 || len(impl.ChainGet(key, begin, text)) != 320 {
		t.Error("20 blocks are refused")
	}
	refused(key, begin, "")
}

func TestP32AByteTurnedInAChain(t *testing.T) {
	d := newDice(608)
	for _, blocks := range []int{1, 2, 3, 20} {
		key, begin, text := d.bytes(16), d.bytes(16), d.bytes(16*blocks)
		put := impl.ChainPut(key, begin, text)
		for at := range put {
			with := byte(1 + d.below(255))
			got := impl.ChainGet(key, begin, turnedAt(put, at, with))
			own := at / 16 * 16
			if len(got) != len(text) || got[:own] != text[:own] || got[own:own+16] == text[own:own+16] {
				t.Fatalf("with byte %d turned %x comes back as %x", at, text, got)
			}
			behind := text
			if at+16 < len(text) {
				behind = turnedAt(text, at+16, with)
			}
			if got[own+16:] != behind[own+16:] {
				t.Fatalf("with byte %d turned by %x %x comes back as %x", at, with, text, got)
			}
		}
	}
}

func TestP33BytesInFigures(t *testing.T) {
	d := newDice(609)
	var each []byte
	for b := range 256 {
		each = append(each, byte(b))
	}
	texts := []string{"", "\x00", "\xff", "0", "a\n", "ä", string(each), d.bytes(1000)}
	for i, text := range slices.Concat(texts, someTexts(d)) {
		figures := impl.Hex(text)
		if figures != hex.EncodeToString([]byte(text)) {
			t.Errorf("Hex(%q) is %q", text, figures)
		}
		more := d.bytes(i % 5)
		if impl.Hex(text+more) != figures+impl.Hex(more) || len(figures) != 2*len(text) {
			t.Errorf("Hex(%q) is not byte by byte", text+more)
		}
	}
}
