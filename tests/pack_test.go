package tests

import (
	"crypto/cipher"
	"encoding/binary"
	"math"
	"slices"
	"strings"
	"testing"
	"unsafe"

	"loop.example/overfare/impl"
)

// The limits, told here once more.
const (
	bodyMost  = 40
	textsMost = 51
	spiMost   = 999
	frameMost = 140
	portMost  = 65535
)

var noPorts = []int{-1, -65536, portMost + 1, portMost + 2, 1 << 17, 1<<32 + 80, math.MinInt, math.MaxInt}

// fourBytes is numbers in four bytes each, the highest first.
func fourBytes(numbers ...int) string {
	var list []byte
	for _, n := range numbers {
		list = binary.BigEndian.AppendUint32(list, uint32(n))
	}
	return string(list)
}

// packetBytes is what the bytes of a packet are to be.
func packetBytes(p impl.Packet) string {
	return fourBytes(p.From, p.To) + string([]byte{byte(p.Port / 256), byte(p.Port % 256), byte(len(p.Text))}) + p.Text
}

func somePackets(d *dice) []impl.Packet {
	list := []impl.Packet{{}, {From: low + 1, To: 5, Port: 80, Text: "x"}, {Text: strings.Repeat("\x00", bodyMost)}}
	for _, a := range someAddresses {
		for _, port := range []int{0, 1, 80, 255, 256, portMost - 1, portMost} {
			for _, size := range []int{0, 1, 15, bodyMost - 1, bodyMost} {
				list = append(list, impl.Packet{From: a, To: d.below(all), Port: port, Text: d.bytes(size)}, impl.Packet{From: d.below(all), To: a, Port: port, Text: d.bytes(size)})
			}
		}
	}
	return list
}

// sameMemory says whether two texts stand at one place.
func sameMemory(a, b string) bool {
	if a == "" || b == "" {
		return false
	}
	first, second := uintptr(unsafe.Pointer(unsafe.StringData(a))), uintptr(unsafe.Pointer(unsafe.StringData(b)))
	return first < second+uintptr(len(b)) && second < first+uintptr(len(a))
}

func TestP38PacketComesBack(t *testing.T) {
	for _, p := range somePackets(newDice(801)) {
		text := impl.PacketPut(p)
		if !impl.PacketOk(p) || text != packetBytes(p) {
			t.Errorf("PacketPut(%#v) is %x, not %x", p, text, packetBytes(p))
		}
		back, ok := impl.PacketGet(text)
		if !ok || back != p {
			t.Errorf("PacketGet of PacketPut(%#v) is %#v, %v", p, back, ok)
		}
		if sameMemory(back.Text, text) || sameMemory(text, p.Text) {
			t.Errorf("of %#v an answer shares memory", p)
		}
	}
}

func TestP38PacketsThatAreNone(t *testing.T) {
	refused := func(p impl.Packet) {
		t.Helper()
		if impl.PacketOk(p) || impl.PacketPut(p) != "" {
			t.Errorf("PacketPut(%#v) is %x", p, impl.PacketPut(p))
		}
	}
	d := newDice(802)
	for _, a := range noAddresses {
		refused(impl.Packet{From: a, To: low, Port: 80, Text: "x"})
		refused(impl.Packet{From: low, To: a, Port: 80, Text: "x"})
		refused(impl.Packet{From: a, To: a})
	}
	for _, port := range noPorts {
		refused(impl.Packet{From: low, To: last, Port: port, Text: "x"})
	}
	for _, size := range []int{bodyMost + 1, bodyMost + 2, 255, 256, 256 + bodyMost, 1000} {
		refused(impl.Packet{From: low, To: last, Port: 80, Text: d.bytes(size)})
	}
}

func TestP38OnlyPacketsAreRead(t *testing.T) {
	d := newDice(803)
	for size := range 320 {
		for _, count := range []int{0, 1, size - 12, size - 11, size - 10, bodyMost - 1, bodyMost, bodyMost + 1, 255, d.below(256)} {
			list := []byte(d.bytes(size))
			if size > 10 {
				list[10] = byte(count)
			}
			text := string(list)
			want := size >= 11 && int(list[10]) <= bodyMost && size == 11+int(list[10])
			p, ok := impl.PacketGet(text)
			if ok != want || !ok && p != (impl.Packet{}) {
				t.Fatalf("PacketGet(%x) is %#v, %v", text, p, ok)
			}
			if ok && (impl.PacketPut(p) != text || p.Text != text[11:]) {
				t.Errorf("PacketPut of PacketGet(%x) is %x", text, impl.PacketPut(p))
			}
		}
	}
	whole := packetBytes(impl.Packet{From: 1, To: 2, Port: 3, Text: "text"})
	for _, text := range []string{"", whole[:10], whole[:11], whole[:len(whole)-1], whole + "\x00", " " + whole, whole[1:]} {
		if p, ok := impl.PacketGet(text); ok || p != (impl.Packet{}) {
			t.Errorf("PacketGet(%q) is %#v, %v", text, p, ok)
		}
	}
}

// filled is Fill told again: a byte more and a byte more, till they are whole blocks.
func filled(text string) string {
	number := 1
	for (len(text)+number)%16 != 0 {
		number++
	}
	list := []byte(text)
	for range number {
		list = append(list, byte(number))
	}
	return string(list)
}

// unfilled tries each beginning that may have been filled.
func unfilled(text string) (string, bool) {
	for size := max(0, len(text)-16); size < len(text); size++ {
		if filled(text[:size]) == text {
			return text[:size], true
		}
	}
	return "", false
}

func TestP39FilledToWholeBlocks(t *testing.T) {
	d := newDice(804)
	sizes := []int{255, 256, 257, 1000, 4096}
	for size := range 70 { // 0, 15, 16 and 17 among them
		sizes = append(sizes, size)
	}
	for _, size := range sizes {
		for _, text := range []string{d.bytes(size), strings.Repeat("\x01", size), strings.Repeat("\x10", size)} {
			full := impl.Fill(text)
			if more := len(full) - size; len(full)%16 != 0 || more < 1 || more > 16 || full != filled(text) {
				t.Errorf("Fill(%x) is %x, not %x", text, full, filled(text))
			}
			back, ok := impl.Unfill(full)
			if !ok || back != text {
				t.Errorf("Unfill of Fill(%x) is %x, %v", text, back, ok)
			}
			if sameMemory(full, text) || sameMemory(back, full) {
				t.Errorf("of %x an answer shares memory", text)
			}
		}
	}
	for _, c := range [][2]string{
		{"", strings.Repeat("\x10", 16)},
		{"fifteen bytes..", "fifteen bytes..\x01"},
		{"sixteen bytes...", "sixteen bytes..." + strings.Repeat("\x10", 16)},
		{"seventeen bytes..", "seventeen bytes.." + strings.Repeat("\x0f", 15)},
	} {
		if full := impl.Fill(c[0]); full != c[1] {
			t.Errorf("Fill(%q) is %q", c[0], full)
		}
	}
}

// endings is texts with a filling of so many bytes of one number, right or wrong, and some with one of them unlike the others.
func endings(d *dice) []string {
	var list []string
	for size := range 50 {
		list = append(list, d.bytes(size), strings.Repeat("\x10", size), strings.Repeat("\x00", size), strings.Repeat("\x11", size))
		for _, number := range []int{0, 1, 2, 8, 15, 16, 17, 32, 128, 255} {
			for _, times := range []int{1, number - 1, number, number + 1, 16} {
				times = max(0, min(times, size))
				text := d.bytes(size-times) + strings.Repeat(string([]byte{byte(number)}), times)
				list = append(list, text)
				if times > 0 {
					list = append(list, turnedAt(text, size-1-d.below(times), byte(1+d.below(255))))
				}
			}
		}
	}
	return list
}

func TestP40OnlyWhatWasFilledIsTaken(t *testing.T) {
	taken := 0
	for _, text := range endings(newDice(805)) {
		back, ok := impl.Unfill(text)
		want, wantOk := unfilled(text)
		if ok != wantOk || back != want {
			t.Errorf("Unfill(%x) is %x, %v, not %x, %v", text, back, ok, want, wantOk)
		}
		if ok && impl.Fill(back) != text {
			t.Errorf("Fill of Unfill(%x) is %x", text, impl.Fill(back))
		}
		if ok {
			taken++
		}
	}
	if taken < 50 {
		t.Errorf("only %d texts were taken", taken)
	}
}

func TestP40FillingAtEachEdge(t *testing.T) {
	body := "sixteen bytes..."
	for _, text := range []string{
		"", "\x01", "\x00", strings.Repeat("\x00", 16), body, body + body, body[:15] + "\x00", body[:15] + "\x11", body[:15] + "\x02", body[:14] + "\x01\x02",
		body + "\x01", body[:14] + "\x01", strings.Repeat("\x0f", 15), strings.Repeat("\x11", 17), strings.Repeat("\x11", 32), strings.Repeat("\x20", 32), body[1:] + strings.Repeat("\x11", 17),
		"\x0f" + strings.Repeat("\x10", 15), strings.Repeat("\x10", 14) + "\x0f\x10", body + "\x11" + strings.Repeat("\x10", 15), strings.Repeat("\xff", 256), strings.Repeat("\xff", 255),
	} {
		if back, ok := impl.Unfill(text); ok || back != "" {
			t.Errorf("Unfill(%x) is %x, %v", text, back, ok)
		}
	}
	for _, c := range [][2]string{
		{strings.Repeat("\x10", 16), ""}, {body + strings.Repeat("\x10", 16), body}, {body[:15] + "\x01", body[:15]}, {"x" + strings.Repeat("\x0f", 15), "x"},
		{body[:14] + "\x01\x01", body[:14] + "\x01"}, {body[:14] + "\x02\x02", body[:14]}, {strings.Repeat("\x10", 32), strings.Repeat("\x10", 16)},
	} {
		if back, ok := impl.Unfill(c[0]); !ok || back != c[1] {
			t.Errorf("Unfill(%x) is %x, %v", c[0], back, ok)
		}
	}
}

// signed is a text with the tag that fits it.
func signed(mac, text string) string {
	return text + libraryTag(mac, text)
}

// framed is a frame of what is filled already.
func framed(key, mac string, spi, seq int, begin, full string) string {
	return signed(mac, fourBytes(spi, seq)+begin+libraryChain(key, begin, full, cipher.NewCBCEncrypter))
}

// seal is two keys, two numbers, a beginning and a text: what a frame is made of.
type seal struct {
	key, mac   string
	spi, seq   int
	begin, raw string
}

func (g seal) put() string {
	return impl.FramePut(g.key, g.mac, g.spi, g.seq, g.begin, g.raw)
}

func (g seal) want() string {
	return framed(g.key, g.mac, g.spi, g.seq, g.begin, filled(g.raw))
}

var (
	textSizes = []int{0, 1, 15, 16, 17, 31, 32, 33, 47, 48, 49, textsMost - 1, textsMost}
	macSizes  = []int{1, 2, 16, 63, 64}
	someSpis  = []int{1, 2, 255, 256, 300, spiMost - 1, spiMost}
	someSeqs  = []int{1, 2, 255, 256, 65536, numbers - 1, numbers}
	noSpis    = []int{0, -1, -256, spiMost + 1, spiMost + 2, 65537, 1 << 31, 1 << 32, 1<<32 + 1, math.MinInt, math.MinInt + 1, math.MaxInt}
	noSeqs    = []int{0, -1, -256, numbers + 1, numbers + 2, 1 << 24, 1 << 31, 1 << 32, 1<<32 + 1, math.MinInt, math.MinInt + 1, math.MaxInt}
)

func (d *dice) seal() seal {
	return seal{d.bytes(16), d.bytes(macSizes[d.below(len(macSizes))]), someSpis[d.below(len(someSpis))], someSeqs[d.below(len(someSeqs))], d.bytes(16), d.bytes(textSizes[d.below(len(textSizes))])}
}

func someSeals(d *dice) []seal {
	var list []seal
	for _, size := range textSizes {
		for _, macSize := range macSizes {
			g := d.seal()
			g.raw, g.mac = d.bytes(size), d.bytes(macSize)
			list = append(list, g)
		}
	}
	for _, spi := range someSpis {
		for _, seq := range someSeqs {
			g := d.seal()
			g.spi, g.seq = spi, seq
			list = append(list, g)
		}
	}
	return list
}

func TestP41FrameIsOpened(t *testing.T) {
	for _, g := range someSeals(newDice(806)) {
		text := g.put()
		if text != g.want() {
			t.Fatalf("FramePut of %#v is %x, not %x", g, text, g.want())
		}
		if more := len(text) - len(g.raw); more < 41 || more > 56 || len(text) > frameMost {
			t.Errorf("FramePut of %#v has %d bytes more", g, more)
		}
		spi, seq, ok := impl.FrameHead(text)
		if spi != g.spi || seq != g.seq || !ok {
			t.Errorf("FrameHead of %#v is %d, %d, %v", g, spi, seq, ok)
		}
		back, ok := impl.FrameGet(g.key, g.mac, text)
		if back != g.raw || !ok {
			t.Errorf("FrameGet of %#v is %x, %v", g, back, ok)
		}
	}
	key := strings.Repeat("k", 16)
	want := "00000003000000016b6b6b6b6b6b6b6b6b6b6b6b6b6b6b6b18e36a155031be5478e79c6bda9b223ce55f46caafa8f0cd2b62f1f95b71187d"
	if text := (seal{key, "mac", 3, 1, key, "hi"}).put(); text != bytesIn(want) {
		t.Errorf("the frame is %x", text)
	}
}

func TestP41WhatIsNotGuarded(t *testing.T) {
	d := newDice(807)
	refused := func(g seal) {
		t.Helper()
		if text := g.put(); text != "" {
			t.Errorf("FramePut of %#v is %x", g, text)
		}
	}
	for _, n := range noSixteen {
		g := d.seal()
		g.key = d.bytes(n)
		refused(g)
		g = d.seal()
		g.begin = d.bytes(n)
		refused(g)
	}
	for _, n := range []int{0, 65, 66, 128, 1000} {
		g := d.seal()
		g.mac = d.bytes(n)
		refused(g)
	}
	for _, n := range []int{textsMost + 1, textsMost + 2, 63, 64, 80, 320, 1000} {
		g := d.seal()
		g.raw = d.bytes(n)
		refused(g)
	}
	for _, n := range noSpis {
		g := d.seal()
		g.spi = n
		refused(g)
	}
	for _, n := range noSeqs {
		g := d.seal()
		g.seq = n
		refused(g)
	}
	refused(seal{})
}

// notOpened asks for the one answer of FrameGet at what it does not open.
func notOpened(t *testing.T, key, mac, text string) {
	t.Helper()
	if back, ok := impl.FrameGet(key, mac, text); ok || back != "" {
		t.Errorf("FrameGet(%x, %x, %x) is %x, %v", key, mac, text, back, ok)
	}
}

func TestP42FramesOfEachSize(t *testing.T) {
	d := newDice(808)
	key, mac := d.bytes(16), d.bytes(20)
	for size := range 180 { // 55, 56, 136, 140 and 141 among them
		text := d.bytes(size)
		if size >= 24 {
			text = signed(mac, fourBytes(3, 1)+text[24:])
		}
		spi, seq, ok := impl.FrameHead(text)
		if want := size >= 56 && size <= frameMost && size%16 == 8; ok != want {
			t.Errorf("of %d bytes FrameHead is %v", size, ok)
		}
		if ok && (spi != 3 || seq != 1) || !ok && (spi != 0 || seq != 0) {
			t.Errorf("of %d bytes FrameHead is %d, %d", size, spi, seq)
		}
		if !ok {
			notOpened(t, key, mac, text)
		}
	}
	notOpened(t, key, mac, framed(key, mac, 3, 1, d.bytes(16), ""))
	for blocks := 1; blocks < 10; blocks++ {
		raw := d.bytes(16*blocks - 1)
		text := framed(key, mac, 3, 1, d.bytes(16), filled(raw))
		if len(text) > frameMost {
			raw = ""
		}
		if back, ok := impl.FrameGet(key, mac, text); ok != (raw != "") || back != raw {
			t.Errorf("of a fitting frame of %d bytes FrameGet is %x, %v", len(text), back, ok)
		}
	}
}

func TestP42NumbersOfAFrame(t *testing.T) {
	d := newDice(809)
	key, mac, begin := d.bytes(16), d.bytes(20), d.bytes(16)
	asked := func(spi, seq int, want bool) {
		t.Helper()
		text := framed(key, mac, spi, seq, begin, filled("text"))
		a, b, ok := impl.FrameHead(text)
		if ok != want || ok && (a != spi || b != seq) || !ok && (a != 0 || b != 0) {
			t.Errorf("with %d, %d FrameHead is %d, %d, %v", spi, seq, a, b, ok)
		}
		if _, ok := impl.FrameGet(key, mac, text); ok != want {
			t.Errorf("with %d, %d FrameGet is %v", spi, seq, ok)
		}
	}
	for _, spi := range someSpis {
		for _, seq := range someSeqs {
			asked(spi, seq, true)
			for _, none := range []int{0, numbers + 1, 1 << 24, 1 << 31, 1<<32 - 1} {
				asked(none, seq, false)
				asked(spi, none, false)
			}
			asked(spiMost+1, seq, false)
			asked(0, 0, false)
		}
	}
}

func TestP42KeysAndFillingThatDoNotOpen(t *testing.T) {
	d := newDice(810)
	key, mac, begin := d.bytes(16), d.bytes(20), d.bytes(16)
	for _, n := range noSixteen {
		notOpened(t, d.bytes(n), mac, framed(key, mac, 3, 1, begin, filled("text")))
	}
	for _, n := range []int{0, 65, 66, 128, 1000} {
		other := d.bytes(n)
		notOpened(t, key, other, framed(key, other, 3, 1, begin, filled("text")))
	}
	for _, text := range endings(d) {
		if len(text) == 0 || len(text)%16 != 0 {
			continue
		}
		want, wantOk := unfilled(text)
		back, ok := impl.FrameGet(key, mac, framed(key, mac, 3, 1, begin, text))
		if ok != wantOk || back != want {
			t.Errorf("FrameGet of a frame of %x is %x, %v", text, back, ok)
		}
	}
}

func TestP43ATurnedByte(t *testing.T) {
	d := newDice(811)
	for _, size := range textSizes {
		g := d.seal()
		g.raw = d.bytes(size)
		text := g.put()
		for at := range text {
			for _, with := range []byte{1, 0x80, 0xff, byte(1 + d.below(255))} {
				notOpened(t, g.key, g.mac, turnedAt(text, at, with))
			}
		}
		for _, other := range []string{text[:len(text)-1], text[1:], text + "\x00", text[:len(text)-16], text[16:], text[:len(text)-32] + text[len(text)-16:]} {
			notOpened(t, g.key, g.mac, other)
		}
	}
}

func TestP44AnotherSecondKey(t *testing.T) {
	d := newDice(812)
	for _, g := range someSeals(d) {
		text := g.put()
		others := []string{g.mac + "x", g.mac[:len(g.mac)-1] + "\x00\x01", d.bytes(20), d.bytes(64), "mac"}
		for at := range g.mac {
			others = append(others, turnedAt(g.mac, at, byte(1+d.below(255))))
		}
		for _, mac := range others {
			if libraryTag(mac, text[:len(text)-16]) != libraryTag(g.mac, text[:len(text)-16]) || len(mac) > 64 {
				notOpened(t, g.key, mac, text)
			}
		}
		// A key with bytes 0 behind is the same key to a tag.
		if mac := g.mac + "\x00"; len(mac) <= 64 {
			if back, ok := impl.FrameGet(g.key, mac, text); !ok || back != g.raw {
				t.Errorf("by %x FrameGet of %#v is %x, %v", mac, g, back, ok)
			}
		}
	}
}

func TestP44AnotherFirstKeyOpensWhatItTurnsBack(t *testing.T) {
	d := newDice(813)
	opened := 0
	for range 1500 {
		g := d.seal()
		g.raw = d.bytes(d.below(16))
		text, key := g.put(), d.bytes(16)
		want, wantOk := unfilled(libraryChain(key, g.begin, text[24:len(text)-16], cipher.NewCBCDecrypter))
		if back, ok := impl.FrameGet(key, g.mac, text); ok != wantOk || back != want {
			t.Errorf("by the key %x FrameGet of %#v is %x, %v", key, g, back, ok)
		}
		if wantOk {
			opened++
		}
	}
	if opened == 0 {
		t.Error("no other key opens anything")
	}
}

func TestFramesShareNoMemory(t *testing.T) {
	d := newDice(814)
	for _, g := range someSeals(d) {
		text := g.put()
		back, _ := impl.FrameGet(g.key, g.mac, text)
		if slices.ContainsFunc([]string{g.key, g.mac, g.begin, g.raw}, func(s string) bool { return sameMemory(s, text) }) || sameMemory(back, text) {
			t.Errorf("of %#v an answer shares memory", g)
		}
	}
}
