package tests

import (
	"crypto/hmac"
	"crypto/sha256"
	"encoding/hex"
	"math"
	"slices"
	"strings"
	"testing"

	"loop.example/overfare/impl"
)

func TestP34SumThatTheWholeWorldKnows(t *testing.T) {
	for _, c := range [][2]string{
		{"abc", "ba7816bf8f01cfea414140de5dae2223b00361a396177a9cb410ff61f20015ad"},
		{"", "e3b0c44298fc1c149afbf4c8996fb92427ae41e4649b934ca495991b7852b855"},
		{"abcdbcdecdefdefgefghfghighijhijkijkljklmklmnlmnomnopnopq", "248d6a61d20638b8e5c026930c3e6039a33ce45964ff2167f6ecedd419db06c1"},
		{strings.Repeat("a", 1000000), "cdc76e5c9914fb9281a1c7e284d73e67f1809a48a497200e046d39ccc7112cd0"},
	} {
		if sum := impl.HashSum(c[0]); sum != c[1] {
			t.Errorf("of %d bytes HashSum is %s, not %s", len(c[0]), sum, c[1])
		}
	}
}

func TestP34SumOfAnySize(t *testing.T) {
	d := newDice(701)
	sizes := []int{511, 512, 513, 8191, 8192, 70000}
	for n := range 260 { // 55, 56, 63, 64, 65 and 119 among them
		sizes = append(sizes, n)
	}
	for _, n := range sizes {
		for _, text := range []string{d.bytes(n), strings.Repeat("\x00", n), strings.Repeat("\xff", n), strings.Repeat("\x80", n)} {
			want := sha256.Sum256([]byte(text))
			if sum := impl.HashSum(text); sum != hex.EncodeToString(want[:]) {
				t.Fatalf("HashSum(%x) is %s, not %x", text, sum, want)
			}
		}
	}
}

func libraryTag(key, text string) string {
	h := hmac.New(sha256.New, []byte(key))
	h.Write([]byte(text))
	return string(h.Sum(nil)[:16])
}

func TestP35TagThatTheWholeWorldKnows(t *testing.T) {
	for _, c := range [][3]string{
		{strings.Repeat("\x0b", 20), "Hi There", "b0344c61d8db38535ca8afceaf0bf12b"},
		{"Jefe", "what do ya want for nothing?", "5bdcc146bf60754e6a042426089575c7"},
		{strings.Repeat("\xaa", 20), strings.Repeat("\xdd", 50), "773ea91e36800e46854db8ebd09181a7"},
	} {
		if tag := impl.Tag(c[0], c[1]); tag != bytesIn(c[2]) {
			t.Errorf("Tag(%x, %q) is %x, not %s", c[0], c[1], tag, c[2])
		}
	}
	d := newDice(702)
	for n := range 65 {
		for _, size := range []int{0, 1, 16, 55, 56, 63, 64, 65, 119, 120, 124, 128, d.below(500)} {
			key, text := d.bytes(n), d.bytes(size)
			if tag := impl.Tag(key, text); tag != libraryTag(key, text) {
				t.Fatalf("Tag(%x, %x) is %x, not %x", key, text, tag, libraryTag(key, text))
			}
		}
	}
}

func TestP35KeysOfATag(t *testing.T) {
	d := newDice(703)
	for _, n := range []int{65, 66, 127, 128, 1000} {
		if tag := impl.Tag(d.bytes(n), "text"); tag != "" {
			t.Errorf("by %d bytes Tag is %x", n, tag)
		}
	}
	if tag := impl.Tag(strings.Repeat("\x00", 65), ""); tag != "" {
		t.Errorf("by 65 bytes Tag is %x", tag)
	}
	for _, n := range []int{0, 1, 20, 63} {
		key := d.bytes(n)
		filled := key + strings.Repeat("\x00", 64-n)
		if impl.Tag(key, "text") != impl.Tag(filled, "text") || impl.Tag(key, "text") == impl.Tag(turnedAt(filled, 63, 1), "text") {
			t.Errorf("by %x and by it filled the tags are %x and %x", key, impl.Tag(key, "text"), impl.Tag(filled, "text"))
		}
	}
}

// numbers is the greatest number.
const numbers = 1000000

func window(seen ...int) impl.Window {
	if len(seen) == 0 {
		return impl.Window{}
	}
	return impl.Window{Top: slices.Max(seen), Seen: seen}
}

func sameWindow(a, b impl.Window) bool {
	return a.Top == b.Top && slices.Equal(a.Seen, b.Seen)
}

// someWindows is windows at both ends of the numbers and between, with few and with all that they may have.
func someWindows(d *dice) []impl.Window {
	list := []impl.Window{{}, {Seen: []int{}}}
	for _, top := range []int{1, 2, 15, 16, 17, 18, 31, 32, 33, 500, numbers - 17, numbers - 16, numbers - 1, numbers} {
		for _, odds := range []int{1, 2, 4, 100} {
			var seen []int
			for n := max(1, top-15); n < top; n++ {
				if d.below(odds) == 0 {
					seen = append(seen, n)
				}
			}
			list = append(list, window(append(seen, top)...))
		}
		if top > 15 {
			list = append(list, window(top-15, top))
		}
	}
	return list
}

func noWindows() []impl.Window {
	full := window(5, 6, 7, 8, 9, 10, 11, 12, 13, 14, 15, 16, 17, 18, 19, 20).Seen
	return []impl.Window{
		{Top: 1}, {Top: -1}, {Top: numbers}, {Top: 5, Seen: []int{}}, {Top: math.MinInt}, {Top: math.MaxInt},
		{Top: 0, Seen: []int{0}}, {Top: 1, Seen: []int{0, 1}}, {Top: 1, Seen: []int{-1, 1}}, {Top: -1, Seen: []int{-1}}, {Top: 0, Seen: []int{1}},
		{Top: 5, Seen: []int{4}}, {Top: 5, Seen: []int{6}}, {Top: 5, Seen: []int{5, 6}}, {Top: 5, Seen: []int{5, 5}}, {Top: 5, Seen: []int{3, 3, 5}}, {Top: 5, Seen: []int{4, 3, 5}},
		{Top: 5, Seen: []int{5, 4}}, {Top: 5, Seen: []int{6, 5}}, {Top: 5, Seen: []int{2, 7, 5}}, {Top: 16, Seen: []int{0, 16}}, {Top: 17, Seen: []int{1, 17}}, {Top: 20, Seen: []int{4, 20}}, {Top: 20, Seen: []int{3, 20}},
		{Top: 20, Seen: []int{4, 5, 20}}, {Top: 20, Seen: append([]int{4}, full...)}, {Top: 20, Seen: append(slices.Clone(full), 21)}, {Top: 20, Seen: append(slices.Clone(full), numbers+1)}, {Top: 19, Seen: full},
		{Top: numbers + 1, Seen: []int{numbers + 1}}, {Top: numbers, Seen: []int{numbers - 16, numbers}}, {Top: numbers, Seen: []int{numbers, numbers + 1}}, {Top: numbers + 1, Seen: []int{numbers, numbers + 1}},
		{Top: math.MaxInt, Seen: []int{math.MaxInt}}, {Top: math.MinInt, Seen: []int{math.MinInt}}, {Top: math.MinInt, Seen: []int{math.MaxInt}}, {Top: 7, Seen: []int{7, math.MaxInt}}, {Top: 7, Seen: []int{math.MinInt, 7}}, {Top: math.MaxInt, Seen: []int{1}},
	}
}

// sees is WindowSee told by lists.
func sees(w impl.Window, n int) (impl.Window, int) {
	switch {
	case n < 1 || n > numbers:
		return w, impl.WinBad
	case n <= w.Top-16:
		return w, impl.WinOld
	case slices.Contains(w.Seen, n):
		return w, impl.WinAgain
	}
	top := max(w.Top, n)
	var seen []int
	for i := max(top-15, 1); i <= top; i++ {
		if i == n || slices.Contains(w.Seen, i) {
			seen = append(seen, i)
		}
	}
	return impl.Window{Top: top, Seen: seen}, impl.WinFine
}

// numbersAt is numbers around a window's ends, and those that are none.
func numbersAt(top int) []int {
	list := []int{0, 1, 2, -1, -16, numbers - 1, numbers, numbers + 1, math.MinInt, math.MaxInt, math.MaxInt - 15, math.MinInt + 15, top + 31, top + 32, top + 63, top + 64, top + 65, top + 256, top + 65536, top + 100000}
	for n := top - 20; n <= top+20; n++ {
		list = append(list, n)
	}
	return list
}

func TestP36WindowsThatAreOk(t *testing.T) {
	for _, w := range someWindows(newDice(704)) {
		if !impl.WindowOk(w) {
			t.Errorf("WindowOk(%v) is false", w)
		}
	}
	for _, w := range noWindows() {
		if impl.WindowOk(w) {
			t.Errorf("WindowOk(%v) is true", w)
		}
		for _, n := range []int{1, 5, 6, numbers, 0, numbers + 1, w.Top} {
			if next, code := impl.WindowSee(w, n); !sameWindow(next, impl.Window{}) || code != impl.WinBad {
				t.Errorf("WindowSee(%v, %d) is %v, %d", w, n, next, code)
			}
		}
	}
}

func TestP36ANumberIsTakenOnce(t *testing.T) {
	for _, w := range someWindows(newDice(705)) {
		for _, n := range numbersAt(w.Top) {
			next, code := impl.WindowSee(w, n)
			want, wantCode := sees(w, n)
			if code != wantCode || !sameWindow(next, want) {
				t.Errorf("WindowSee(%v, %d) is %v, %d, not %v, %d", w, n, next, code, want, wantCode)
			}
			again, codeAgain := impl.WindowSee(next, n)
			if code == impl.WinFine {
				code = impl.WinAgain
			}
			if codeAgain != code || !sameWindow(again, next) || !impl.WindowOk(next) {
				t.Errorf("WindowSee(%v, %d) again is %v, %d", next, n, again, codeAgain)
			}
		}
	}
}

func TestP36CodesOfAWindow(t *testing.T) {
	for _, c := range []struct {
		w    impl.Window
		n    int
		want impl.Window
		code int
	}{
		{window(), 0, window(), 1},
		{window(), 1, window(1), 0},
		{window(), numbers, window(numbers), 0},
		{window(), numbers + 1, window(), 1},
		{window(5, 20), 4, window(5, 20), 2},
		{window(5, 20), 5, window(5, 20), 3},
		{window(5, 20), 6, window(5, 6, 20), 0},
		{window(5, 20), 20, window(5, 20), 3},
		{window(5, 20), 21, window(20, 21), 0},
		{window(5, 6, 20), 36, window(36), 0},
		{window(5, 6, 20), 35, window(20, 35), 0},
		{window(1, 16), 0, window(1, 16), 1},
		{window(numbers), numbers - 15, window(numbers-15, numbers), 0},
		{window(numbers), numbers - 16, window(numbers), 2},
	} {
		if next, code := impl.WindowSee(c.w, c.n); code != c.code || !sameWindow(next, c.want) {
			t.Errorf("WindowSee(%v, %d) is %v, %d, not %v, %d", c.w, c.n, next, code, c.want, c.code)
		}
	}
}

// someRuns is lists of at most 60 numbers: around one that grows, around the greatest, and from anywhere.
func someRuns(d *dice) [][]int {
	list := [][]int{nil, {}, {0}, {1, 1}, {numbers, numbers, numbers - 15, numbers - 16, numbers + 1}, {1, 17, 1, 2}, {16, 1, 1, 17, 1}}
	for i := range 300 {
		var run []int
		at := []int{0, 1, numbers - 70, numbers - 10}[d.below(4)]
		for range []int{1, 2, 30, 59, 60}[i%5] {
			at += d.below(4)
			n := at - d.below(22) + d.below(6)
			if d.below(30) == 0 {
				n = []int{0, -1, numbers + 1, math.MinInt, math.MaxInt}[d.below(5)]
			}
			run = append(run, n)
		}
		list = append(list, run)
	}
	return list
}

func TestP37NoNumberIsTakenTwice(t *testing.T) {
	for _, run := range someRuns(newDice(706)) {
		codes := impl.WindowRun(run)
		if len(codes) != len(run) {
			t.Fatalf("WindowRun(%v) is %v", run, codes)
		}
		var w impl.Window
		var fine []int
		for i, n := range run {
			next, want := sees(w, n)
			if codes[i] != want {
				t.Fatalf("WindowRun(%v) is %v: at %d not %d", run, codes, i, want)
			}
			w = next
			greatest := n >= 1 && n <= numbers && (len(fine) == 0 || n > slices.Max(fine))
			if greatest && codes[i] != impl.WinFine || slices.Contains(fine, n) && codes[i] == impl.WinFine || codes[i] == impl.WinAgain && !slices.Contains(fine, n) {
				t.Errorf("WindowRun(%v) is %v, at %d, too", run, codes, i)
			}
			if codes[i] == impl.WinFine {
				fine = append(fine, n)
			}
		}
	}
}

func TestP37RunsOfManyNumbers(t *testing.T) {
	var run, want []int
	for i := range 60 {
		run, want = append(run, i+1), append(want, impl.WinFine)
	}
	if codes := impl.WindowRun(run); !slices.Equal(codes, want) {
		t.Errorf("60 numbers: %v", codes)
	}
	for _, n := range []int{61, 62, 1000} {
		if codes := impl.WindowRun(slices.Repeat([]int{1}, n)); len(codes) != 0 {
			t.Errorf("%d numbers: %v", n, codes)
		}
	}
	if codes := impl.WindowRun(append(run, 61)); len(codes) != 0 {
		t.Errorf("61 numbers: %v", codes)
	}
	if codes := impl.WindowRun([]int{5, 3, 5, 40, 24, 25, 24, 0}); !slices.Equal(codes, []int{0, 0, 3, 0, 2, 0, 2, 1}) {
		t.Errorf("few numbers: %v", codes)
	}
}

func TestWindowsShareNoMemory(t *testing.T) {
	d := newDice(707)
	for _, w := range append(someWindows(d), noWindows()...) {
		for _, n := range []int{0, 1, w.Top, w.Top - 15, w.Top - 3, w.Top + 1, w.Top + 20, numbers + 1} {
			seen := lend(w.Seen, 77)
			lentWindow := impl.Window{Top: w.Top, Seen: seen.list}
			impl.WindowOk(lentWindow)
			seen.unchanged(t)
			next, _ := impl.WindowSee(lentWindow, n)
			seen.apartFrom(t, next.Seen, -7)
		}
	}
	for _, run := range append(someRuns(d), slices.Repeat([]int{1}, 61)) {
		list := lend(run, 77)
		list.apartFrom(t, impl.WindowRun(list.list), -7)
	}
}
