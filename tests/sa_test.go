package tests

import (
	"crypto/cipher"
	"encoding/binary"
	"math"
	"slices"
	"strings"
	"testing"

	"loop.example/overfare/impl"
)

// plainSa is keys that are young from 10 on, dying at 15 or behind 4 frames, and dead at 20 or behind 9.
func plainSa() impl.Sa {
	return impl.Sa{Spi: 7, Tun: 1, Key: strings.Repeat("k", 16), Mac: "mac", Since: 10, Soft: 4, Hard: 9, Ticks: 5}
}

// changed is keys with a change.
func changed(s impl.Sa, change func(*impl.Sa)) impl.Sa {
	change(&s)
	return s
}

func sameSa(a, b impl.Sa) bool {
	return sameWindow(a.Win, b.Win) && slices.Equal(saNumbers(a), saNumbers(b)) && a.Key == b.Key && a.Mac == b.Mac
}

func saNumbers(s impl.Sa) []int {
	return []int{s.Spi, s.Tun, s.Since, s.Soft, s.Hard, s.Ticks, s.Sent}
}

// someSas is keys at each edge of each part, and others.
func someSas(d *dice) []impl.Sa {
	list := []impl.Sa{plainSa()}
	with := func(change func(*impl.Sa)) {
		list = append(list, changed(plainSa(), change))
	}
	for _, spi := range someSpis {
		with(func(s *impl.Sa) { s.Spi = spi })
	}
	for tun := range 4 {
		with(func(s *impl.Sa) { s.Tun = tun })
	}
	for _, size := range macSizes {
		with(func(s *impl.Sa) { s.Key, s.Mac = d.bytes(16), d.bytes(size) })
	}
	for _, n := range []int{0, 1, numbers - 1, numbers} {
		with(func(s *impl.Sa) { s.Since = n })
		with(func(s *impl.Sa) { s.Ticks = max(n, 1) })
		with(func(s *impl.Sa) { s.Soft, s.Hard = 1, max(n, 1) })
		with(func(s *impl.Sa) { s.Soft, s.Hard, s.Sent = max(n, 1), numbers, n })
	}
	for sent := range 10 {
		with(func(s *impl.Sa) { s.Sent = sent })
	}
	with(func(s *impl.Sa) { s.Soft = 1 })
	with(func(s *impl.Sa) { s.Soft = 9 })
	for _, w := range someWindows(d) {
		with(func(s *impl.Sa) { s.Win, s.Hard = w, numbers })
		with(func(s *impl.Sa) { s.Win = w })
	}
	return list
}

// noSas is keys of which one part is not as it must be.
func noSas(d *dice) []impl.Sa {
	list := []impl.Sa{{}}
	with := func(change func(*impl.Sa)) {
		list = append(list, changed(plainSa(), change))
	}
	for _, n := range noSpis {
		with(func(s *impl.Sa) { s.Spi = n })
	}
	for _, n := range []int{-1, 4, 5, math.MinInt, math.MaxInt} {
		with(func(s *impl.Sa) { s.Tun = n })
	}
	for _, n := range noSixteen {
		with(func(s *impl.Sa) { s.Key = d.bytes(n) })
	}
	for _, n := range []int{0, 65, 66, 1000} {
		with(func(s *impl.Sa) { s.Mac = d.bytes(n) })
	}
	for _, n := range []int{-1, numbers + 1, math.MinInt, math.MaxInt} {
		with(func(s *impl.Sa) { s.Since = n })
		with(func(s *impl.Sa) { s.Soft = n })
		with(func(s *impl.Sa) { s.Hard = n })
		with(func(s *impl.Sa) { s.Ticks = n })
		with(func(s *impl.Sa) { s.Sent = n })
		with(func(s *impl.Sa) { s.Soft, s.Hard = n, n })
	}
	with(func(s *impl.Sa) { s.Soft = 0 })
	with(func(s *impl.Sa) { s.Soft = 10 })
	with(func(s *impl.Sa) { s.Soft, s.Hard = 0, 0 })
	with(func(s *impl.Sa) { s.Hard = 3 })
	with(func(s *impl.Sa) { s.Ticks = 0 })
	with(func(s *impl.Sa) { s.Sent = 10 })
	for _, w := range noWindows() {
		with(func(s *impl.Sa) { s.Win = w })
	}
	return list
}

// ageOf, sends and takes tell the chapter again, by the library and lists.
func ageOf(s impl.Sa, now int) int {
	switch {
	case s.Sent >= s.Hard || now >= s.Since+2*s.Ticks:
		return impl.AgeDead
	case s.Sent >= s.Soft || now >= s.Since+s.Ticks:
		return impl.AgeDying
	}
	return impl.AgeYoung
}

// frameNumbered is the frame of keys under a number.
func frameNumbered(s impl.Sa, seq int, full string) string {
	both := binary.BigEndian.AppendUint64(nil, uint64(s.Spi))
	both = binary.BigEndian.AppendUint64(both, uint64(seq))
	return framed(s.Key, s.Mac, s.Spi, seq, libraryPut(s.Key, string(both)), full)
}

func sends(s impl.Sa, now int, text string) (impl.Sa, string, int) {
	switch {
	case len(text) > textsMost:
		return s, "", impl.SaBad
	case ageOf(s, now) == impl.AgeDead:
		return s, "", impl.SaDead
	}
	s.Sent++
	return s, frameNumbered(s, s.Sent, filled(text)), impl.SaFine
}

func headed(text string) (int, int, bool) {
	if len(text) < 56 || len(text) > frameMost || len(text)%16 != 8 {
		return 0, 0, false
	}
	spi, seq := int(binary.BigEndian.Uint32([]byte(text[:4]))), int(binary.BigEndian.Uint32([]byte(text[4:8])))
	return spi, seq, spi >= 1 && spi <= spiMost && seq >= 1 && seq <= numbers
}

func takes(s impl.Sa, now int, text string) (impl.Sa, string, int) {
	spi, seq, ok := headed(text)
	win, seen := sees(s.Win, seq)
	switch {
	case !ok:
		return s, "", impl.SaBad
	case spi != s.Spi:
		return s, "", impl.SaOther
	case now >= s.Since+2*s.Ticks || seq > s.Hard:
		return s, "", impl.SaDead
	case seen == impl.WinOld:
		return s, "", impl.SaOld
	case seen == impl.WinAgain:
		return s, "", impl.SaAgain
	}
	end := len(text) - 16
	inner, ok := unfilled(libraryChain(s.Key, text[8:24], text[24:end], cipher.NewCBCDecrypter))
	if !ok || text[end:] != libraryTag(s.Mac, text[:end]) {
		return s, "", impl.SaTag
	}
	s.Win = win
	return s, inner, impl.SaFine
}

func checkSend(t *testing.T, s impl.Sa, now int, text string) (impl.Sa, string, int) {
	t.Helper()
	next, frame, code := impl.SaSend(s, now, text)
	want, wantFrame, wantCode := sends(s, now, text)
	if !sameSa(next, want) || frame != wantFrame || code != wantCode {
		t.Errorf("SaSend(%#v, %d, %x) is %#v, %x, %d, not %#v, %x, %d", s, now, text, next, frame, code, want, wantFrame, wantCode)
	}
	return next, frame, code
}

func checkTake(t *testing.T, s impl.Sa, now int, text string) (impl.Sa, string, int) {
	t.Helper()
	next, inner, code := impl.SaTake(s, now, text)
	want, wantInner, wantCode := takes(s, now, text)
	if !sameSa(next, want) || inner != wantInner || code != wantCode {
		t.Errorf("SaTake(%#v, %d, %x) is %#v, %x, %d, not %#v, %x, %d", s, now, text, next, inner, code, want, wantInner, wantCode)
	}
	return next, inner, code
}

// timesAt is times around those at which keys grow old, and at both ends.
func timesAt(s impl.Sa) []int {
	list := []int{math.MinInt, -1, 0, 1, numbers, numbers + 1, math.MaxInt}
	for _, at := range []int{s.Since, s.Since + s.Ticks, s.Since + 2*s.Ticks} {
		list = append(list, at-1, at, at+1)
	}
	slices.Sort(list)
	return list
}

func TestP45AgesAtEachEdge(t *testing.T) {
	for _, c := range []struct{ sent, now, age int }{
		{0, 10, 1}, {3, 14, 1}, {4, 14, 2}, {3, 15, 2}, {4, 10, 2}, {8, 19, 2}, {0, 19, 2}, {9, 10, 3}, {0, 20, 3}, {9, 20, 3}, {8, 20, 3}, {9, 0, 3}, {0, 0, 1}, {0, math.MinInt, 1}, {0, math.MaxInt, 3},
	} {
		s := changed(plainSa(), func(s *impl.Sa) { s.Sent = c.sent })
		if age := impl.SaAge(s, c.now); age != c.age {
			t.Errorf("with %d sent SaAge at %d is %d, not %d", c.sent, c.now, age, c.age)
		}
	}
}

func TestP45KeysOnlyGrowOlder(t *testing.T) {
	for _, s := range someSas(newDice(901)) {
		if !impl.SaOk(s) {
			t.Fatalf("SaOk(%#v) is false", s)
		}
		was := impl.AgeYoung
		for _, now := range timesAt(s) {
			age := impl.SaAge(s, now)
			if age != ageOf(s, now) || age < was {
				t.Errorf("SaAge(%#v, %d) is %d, and was %d", s, now, age, was)
			}
			was = age
			next, _, code := impl.SaSend(s, now, "text")
			if (code == impl.SaDead) != (age == impl.AgeDead) || impl.SaAge(next, now) < age {
				t.Errorf("SaSend(%#v, %d) is %d, of the age %d, then %d", s, now, code, age, impl.SaAge(next, now))
			}
		}
	}
}

func TestP45KeysThatAreNone(t *testing.T) {
	fine := frameNumbered(plainSa(), 1, filled("text"))
	for _, s := range noSas(newDice(902)) {
		if impl.SaOk(s) || impl.SaAge(s, 10) != 0 || impl.SaAge(s, 100) != 0 {
			t.Errorf("SaAge(%#v) is %d", s, impl.SaAge(s, 10))
		}
		for _, text := range []string{"", "text", fine, strings.Repeat("x", 60)} {
			if next, frame, code := impl.SaSend(s, 10, text); !sameSa(next, impl.Sa{}) || frame != "" || code != impl.SaBad {
				t.Errorf("SaSend(%#v, %x) is %#v, %x, %d", s, text, next, frame, code)
			}
			if next, inner, code := impl.SaTake(s, 10, text); !sameSa(next, impl.Sa{}) || inner != "" || code != impl.SaBad {
				t.Errorf("SaTake(%#v, %x) is %#v, %x, %d", s, text, next, inner, code)
			}
		}
	}
}

func TestP46EachFrameHasANumberOfItsOwn(t *testing.T) {
	d := newDice(903)
	for _, s := range someSas(d) {
		for _, size := range []int{0, 15, 16, 17, textsMost} {
			text := d.bytes(size)
			next, frame, code := checkSend(t, s, s.Since, text)
			if code != impl.SaFine {
				continue
			}
			spi, seq, ok := impl.FrameHead(frame)
			if spi != s.Spi || seq != s.Sent+1 || next.Sent != seq || !ok {
				t.Errorf("the frame of %#v has %d, %d", s, spi, seq)
			}
			if inner, ok := impl.FrameGet(s.Key, s.Mac, frame); !ok || inner != text {
				t.Errorf("of the frame of %#v FrameGet is %x, %v, not %x", s, inner, ok, text)
			}
		}
	}
}

func TestP46NoFrameButTheNext(t *testing.T) {
	s := plainSa()
	begins := map[string]int{}
	for want := 1; want <= s.Hard; want++ {
		next, frame, code := checkSend(t, s, 10, "text")
		_, seq, _ := impl.FrameHead(frame)
		if begins[frame[8:24]]++; code != impl.SaFine || seq != want || begins[frame[8:24]] > 1 {
			t.Errorf("frame %d has the number %d, and %d", want, seq, code)
		}
		s = next
	}
	for _, now := range []int{0, 10, 20} {
		if _, _, code := checkSend(t, s, now, "text"); code != impl.SaDead {
			t.Errorf("behind the last SaSend is %d", code)
		}
	}
}

func TestP46CodesOfSending(t *testing.T) {
	long, longer := strings.Repeat("x", textsMost), strings.Repeat("x", textsMost+1)
	for _, c := range []struct {
		sent, now int
		text      string
		code      int
	}{
		{0, 10, "", 0}, {0, 10, long, 0}, {0, 10, longer, 1}, {0, 19, long, 0}, {0, 20, long, 3}, {0, 20, longer, 1}, {8, 10, "x", 0}, {9, 10, "x", 3}, {9, 10, longer, 1}, {0, 0, "x", 0}, {0, math.MaxInt, "x", 3}, {0, math.MinInt, "x", 0},
	} {
		s := changed(plainSa(), func(s *impl.Sa) { s.Sent, s.Win = c.sent, window(3, 5) })
		if _, _, code := checkSend(t, s, c.now, c.text); code != c.code {
			t.Errorf("with %d sent SaSend at %d of %d bytes is %d, not %d", c.sent, c.now, len(c.text), code, c.code)
		}
	}
}

func TestP47AFrameIsTakenOnce(t *testing.T) {
	d := newDice(904)
	for _, s := range someSas(d) {
		for _, seq := range []int{1, s.Hard, max(1, s.Win.Top-16), max(1, s.Win.Top-15), max(1, s.Win.Top-3), max(1, s.Win.Top), min(numbers, s.Win.Top+1), min(numbers, s.Win.Top+20), min(numbers, s.Hard+1)} {
			text := d.bytes(d.below(textsMost + 1))
			frame := frameNumbered(s, seq, filled(text))
			next, inner, code := checkTake(t, s, s.Since, frame)
			if opened, ok := impl.FrameGet(s.Key, s.Mac, frame); code == impl.SaFine && (!ok || opened != inner || inner != text) {
				t.Errorf("of what SaTake(%#v) took FrameGet is %x, %v", s, opened, ok)
			}
			again := code
			if code == impl.SaFine {
				again = impl.SaAgain
			}
			if _, _, code := checkTake(t, next, s.Since, frame); code != again {
				t.Errorf("SaTake(%#v) of it again is %d, not %d", next, code, again)
			}
			checkTake(t, s, s.Since+2*s.Ticks-1, frame)
			checkTake(t, s, s.Since+2*s.Ticks, frame)
		}
	}
}

func TestP47CodesOfTaking(t *testing.T) {
	s := changed(plainSa(), func(s *impl.Sa) { s.Hard, s.Win = 30, window(5, 20) })
	other := changed(s, func(s *impl.Sa) { s.Spi = 8 })
	frame := func(s impl.Sa, seq int) string { return frameNumbered(s, seq, filled("text")) }
	spoilt := func(seq int) string { return turnedAt(frame(s, seq), 30, 1) }
	for _, c := range []struct {
		what string
		now  int
		text string
		code int
	}{
		{"the next", 10, frame(s, 21), 0}, {"the last number", 10, frame(s, 30), 0}, {"one above it", 10, frame(s, 31), 3}, {"the furthest back", 10, frame(s, 6), 0},
		{"what came", 10, frame(s, 5), 5}, {"the top", 10, frame(s, 20), 5}, {"too far back", 10, frame(s, 4), 4}, {"the first", 10, frame(s, 1), 4},
		{"just in time", 19, frame(s, 21), 0}, {"ahead of time", 0, frame(s, 21), 0}, {"too late", 20, frame(s, 21), 3}, {"much too late", math.MaxInt, frame(s, 21), 3}, {"long ago", math.MinInt, frame(s, 21), 0},
		{"another's", 10, frame(other, 21), 2}, {"another's, too late, and again", 20, frame(other, 5), 2}, {"another's, above", 10, frame(other, 31), 2},
		{"too late, and again", 20, frame(s, 5), 3}, {"too late, and far back", 20, frame(s, 4), 3},
		{"spoilt", 10, spoilt(21), 6}, {"spoilt, and again", 10, spoilt(5), 5}, {"spoilt, and far back", 10, spoilt(4), 4}, {"spoilt, above", 10, spoilt(31), 3}, {"spoilt, too late", 20, spoilt(21), 3},
		{"wrongly filled", 10, frameNumbered(s, 21, strings.Repeat("\x00", 16)), 6}, {"longer than is sent", 10, frameNumbered(s, 21, filled(strings.Repeat("x", 80))), 0},
		{"nothing", 10, "", 1}, {"a piece", 10, frame(s, 21)[:55], 1}, {"nothing, too late", 20, "", 1}, {"too much", 10, frame(s, 21) + "x", 1},
		{"a number of 0", 10, frame(s, 0), 1}, {"a number of too much", 10, frame(s, numbers+1), 1}, {"keys of 0", 10, frame(changed(s, func(s *impl.Sa) { s.Spi = 0 }), 21), 1}, {"keys of too much", 10, frame(changed(s, func(s *impl.Sa) { s.Spi = spiMost + 1 }), 21), 1},
	} {
		if _, _, code := checkTake(t, s, c.now, c.text); code != c.code {
			t.Errorf("%s: SaTake is %d, not %d", c.what, code, c.code)
		}
	}
}

func TestP47KeysThatSentAllStillTake(t *testing.T) {
	s := changed(plainSa(), func(s *impl.Sa) { s.Sent = 9 })
	if _, inner, code := checkTake(t, s, 19, frameNumbered(s, 9, filled("text"))); code != impl.SaFine || inner != "text" {
		t.Errorf("SaTake is %q, %d", inner, code)
	}
}

func TestP47ATurnedByteIsNotTaken(t *testing.T) {
	d := newDice(905)
	for _, size := range []int{0, 15, 16, textsMost} {
		s := changed(plainSa(), func(s *impl.Sa) { s.Win, s.Hard = window(300, 302), numbers })
		text := d.bytes(size)
		frame := frameNumbered(s, 301, filled(text))
		for at := range frame {
			for _, with := range []byte{1, 2, 0x80, byte(1 + d.below(255))} {
				next, _, code := checkTake(t, s, 10, turnedAt(frame, at, with))
				if code == impl.SaFine || at >= 8 && code != impl.SaTag {
					t.Errorf("with byte %d turned by %d SaTake is %d", at, with, code)
				}
				s = next
			}
		}
		if _, inner, code := checkTake(t, s, 10, frame); code != impl.SaFine || inner != text {
			t.Errorf("behind all that is spoilt SaTake is %x, %d", inner, code)
		}
	}
}

func TestP48WhatIsSentIsTakenInAnyOrder(t *testing.T) {
	d := newDice(906)
	orders := [][3]int{{0, 1, 2}, {0, 2, 1}, {1, 0, 2}, {1, 2, 0}, {2, 0, 1}, {2, 1, 0}}
	for _, sent := range []int{0, 5, 100, numbers - 3} {
		sender := impl.Sa{Spi: 1 + d.below(spiMost), Tun: d.below(4), Key: d.bytes(16), Mac: d.bytes(64), Since: 10, Soft: 1, Hard: sent + 3, Ticks: 5, Sent: sent}
		taker := changed(sender, func(s *impl.Sa) { s.Sent = 0 })
		var texts, frames [3]string
		for i := range texts {
			texts[i] = d.bytes(d.below(textsMost + 1))
			next, frame, code := impl.SaSend(sender, 10+i, texts[i])
			if code != impl.SaFine {
				t.Fatalf("frame %d of %#v is %d", i, sender, code)
			}
			sender, frames[i] = next, frame
		}
		if impl.SaAge(sender, 10) != impl.AgeDead {
			t.Errorf("behind all frames SaAge is %d", impl.SaAge(sender, 10))
		}
		for _, order := range orders {
			s := taker
			for step, i := range order {
				next, inner, code := impl.SaTake(s, 12, frames[i])
				if code != impl.SaFine || inner != texts[i] {
					t.Errorf("in the order %v SaTake of frame %d is %x, %d", order, i, inner, code)
				}
				s = next
				for _, came := range order[:step+1] {
					if next, inner, code := impl.SaTake(s, 12, frames[came]); code != impl.SaAgain || inner != "" || !sameSa(next, s) {
						t.Errorf("in the order %v SaTake of frame %d again is %x, %d", order, came, inner, code)
					}
				}
			}
		}
	}
}

func TestKeysShareNoMemory(t *testing.T) {
	d := newDice(907)
	long := strings.Repeat("x", 60)
	for _, s := range append(someSas(d), noSas(d)...) {
		seen := lend(s.Win.Seen, 77)
		own := changed(s, func(s *impl.Sa) { s.Win.Seen = seen.list })
		check := func(next impl.Sa, answer string, code int) {
			t.Helper()
			if sameMemory(next.Key, s.Key) || sameMemory(next.Mac, s.Mac) {
				t.Errorf("of %#v an answer shares a text", s)
			}
			seen.apartFrom(t, next.Win.Seen, -7)
		}
		impl.SaOk(own)
		impl.SaAge(own, s.Since)
		seen.unchanged(t)
		check(impl.SaSend(own, s.Since, "text"))
		check(impl.SaSend(own, s.Since, long))
		check(impl.SaTake(own, s.Since, long))
		if impl.SaOk(s) {
			for _, seq := range []int{1, max(1, s.Win.Top), min(numbers, s.Win.Top+1), s.Hard} {
				check(impl.SaTake(own, s.Since, frameNumbered(s, seq, filled("text"))))
				check(impl.SaTake(own, s.Since, frameNumbered(s, seq, "wrongly filled..")))
			}
		}
	}
}
