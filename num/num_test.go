package num

import (
	"fmt"
	"math"
	"math/big"
	"math/rand"
	"strings"
	"testing"
)

// someNumbers are numbers, those at the ends of bytes, of digits and of ints among them.
func someNumbers() []int {
	l := []int{math.MinInt, math.MinInt + 1, math.MaxInt - 1, math.MaxInt, 0x04030201, 0x8182838485868788 - 1<<63}
	for shift := range 63 {
		for d := -2; d <= 2; d++ {
			l = append(l, 1<<shift+d, -1<<shift+d)
		}
	}
	for n := 1; n < math.MaxInt/10; n *= 10 {
		l = append(l, n-1, n, n+1, -n)
	}
	r := rand.New(rand.NewSource(7))
	for range 300 {
		l = append(l, int(r.Uint64()), int(r.Uint32()), r.Intn(1<<16))
	}
	return l
}

// modulo is n modulo 2^bits from 0 on, reckoned with numbers that do not wrap.
func modulo(n, bits int) int {
	m := new(big.Int).Lsh(big.NewInt(1), uint(bits))
	return int(m.Mod(big.NewInt(int64(n)), m).Int64())
}

// spelt is n in so many bytes, the lowest first, by division.
func spelt(n, bytes int) string {
	n = modulo(n, 8*bytes)
	var b []byte
	for range bytes {
		b = append(b, byte(n%256))
		n /= 256
	}
	return string(b)
}

// sum is what the bytes of s say, the lowest first, by multiplication.
func sum(s string) int {
	n := 0
	for i := len(s) - 1; i >= 0; i-- {
		n = n*256 + int(s[i])
	}
	return n
}

// drawn is a text of n bytes of all kinds.
func drawn(r *rand.Rand, n int) string {
	b := make([]byte, n)
	r.Read(b)
	return string(b)
}

// someTexts are texts, of which some are too short to have a number, and some are no runes' bytes.
func someTexts() []string {
	l := []string{"", "a", "\x00", "\xff", "\x02\x01", "\xff\xff", "\xff\xff\xff", "\xff\xff\xff\xff", "\x00\x00\x00\x00", "\x00\x00\x00\x80",
		"\x01\x02\x03\x04\x05\x06\x07\x08\x09", "\u20ac\U0001F600", strings.Repeat("\x80", 9)}
	r := rand.New(rand.NewSource(8))
	for n := range 20 {
		l = append(l, drawn(r, n))
	}
	return l
}

// places are places of s and beside it, and those at the ends of ints.
func places(s string) []int {
	l := []int{math.MinInt, math.MinInt + 1, math.MinInt + 4, -65536, -1 << 32, 1 << 32, math.MaxInt - 4, math.MaxInt - 3, math.MaxInt - 2, math.MaxInt - 1, math.MaxInt}
	for at := -6; at <= len(s)+6; at++ {
		l = append(l, at)
	}
	return l
}

// whole is the greatest number of so many digits.
func whole(width int) int {
	n := 1
	for range width {
		n *= 10
	}
	return n - 1
}

func TestPut16OfSomeNumbers(t *testing.T) { // P3.1
	for _, x := range []struct {
		n    int
		want string
	}{
		{258, "\x02\x01"},
		{0, "\x00\x00"},
		{1, "\x01\x00"},
		{255, "\xff\x00"},
		{256, "\x00\x01"},
		{32768, "\x00\x80"},
		{65535, "\xff\xff"},
		{65536, "\x00\x00"},
		{65537, "\x01\x00"},
		{-1, "\xff\xff"},
		{-2, "\xfe\xff"},
		{-65535, "\x01\x00"},
		{-65536, "\x00\x00"},
		{-65537, "\xff\xff"},
		{math.MaxInt, "\xff\xff"},
		{math.MinInt, "\x00\x00"},
		{math.MinInt + 258, "\x02\x01"},
	} {
		if got := Put16(x.n); got != x.want {
			t.Errorf("Put16(%d): % x, want % x", x.n, got, x.want)
		}
	}
}

func TestPut32OfSomeNumbers(t *testing.T) { // P3.1
	for _, x := range []struct {
		n    int
		want string
	}{
		{0x04030201, "\x01\x02\x03\x04"},
		{0, "\x00\x00\x00\x00"},
		{1, "\x01\x00\x00\x00"},
		{65535, "\xff\xff\x00\x00"},
		{65536, "\x00\x00\x01\x00"},
		{1 << 24, "\x00\x00\x00\x01"},
		{1<<31 - 1, "\xff\xff\xff\x7f"},
		{1 << 31, "\x00\x00\x00\x80"},
		{1<<32 - 1, "\xff\xff\xff\xff"},
		{1 << 32, "\x00\x00\x00\x00"},
		{1<<32 + 1, "\x01\x00\x00\x00"},
		{-1, "\xff\xff\xff\xff"},
		{-2, "\xfe\xff\xff\xff"},
		{-1 << 31, "\x00\x00\x00\x80"},
		{-1<<32 + 1, "\x01\x00\x00\x00"},
		{-1 << 32, "\x00\x00\x00\x00"},
		{-1<<32 - 1, "\xff\xff\xff\xff"},
		{math.MaxInt, "\xff\xff\xff\xff"},
		{math.MinInt, "\x00\x00\x00\x00"},
		{math.MinInt + 0x04030201, "\x01\x02\x03\x04"},
	} {
		if got := Put32(x.n); got != x.want {
			t.Errorf("Put32(%d): % x, want % x", x.n, got, x.want)
		}
	}
}

func TestPutIsModulo(t *testing.T) { // P3.1
	for _, n := range someNumbers() {
		if got, want := Put16(n), spelt(n, 2); got != want {
			t.Errorf("Put16(%d): % x, want % x", n, got, want)
		}
		if got, want := Put32(n), spelt(n, 4); got != want {
			t.Errorf("Put32(%d): % x, want % x", n, got, want)
		}
	}
}

func TestGetWhereSoManyBytesStand(t *testing.T) { // P3.1
	for _, s := range someTexts() {
		for at := range len(s) {
			if at+2 <= len(s) {
				if got, ok := Get16(s, at); !ok || got != sum(s[at:at+2]) {
					t.Errorf("Get16(% x, %d): %d, %v, want %d", s, at, got, ok, sum(s[at:at+2]))
				}
			}
			if at+4 <= len(s) {
				if got, ok := Get32(s, at); !ok || got != sum(s[at:at+4]) {
					t.Errorf("Get32(% x, %d): %d, %v, want %d", s, at, got, ok, sum(s[at:at+4]))
				}
			}
		}
	}
}

func TestGetWhereBytesLack(t *testing.T) { // P3.1
	for _, s := range someTexts() {
		for _, at := range places(s) {
			if at < 0 || at > len(s)-2 {
				if got, ok := Get16(s, at); ok || got != 0 {
					t.Errorf("Get16(% x, %d): %d, %v, want none", s, at, got, ok)
				}
			}
			if at < 0 || at > len(s)-4 {
				if got, ok := Get32(s, at); ok || got != 0 {
					t.Errorf("Get32(% x, %d): %d, %v, want none", s, at, got, ok)
				}
			}
		}
	}
}

func TestGetOfNoughtIsThere(t *testing.T) { // P3.1
	if got, ok := Get16("\x00\x00", 0); got != 0 || !ok {
		t.Errorf("Get16 of noughts: %d, %v", got, ok)
	}
	if got, ok := Get32("\x00\x00\x00\x00", 0); got != 0 || !ok {
		t.Errorf("Get32 of noughts: %d, %v", got, ok)
	}
}

func TestGetIsNeverBelowNought(t *testing.T) { // P3.1
	if got, ok := Get16("\xff\xff", 0); got != 65535 || !ok {
		t.Errorf("Get16 of the greatest: %d, %v", got, ok)
	}
	if got, ok := Get32("\xff\xff\xff\xff", 0); got != 4294967295 || !ok {
		t.Errorf("Get32 of the greatest: %d, %v", got, ok)
	}
	if got, ok := Get32("\x00\x00\x00\x80", 0); got != 2147483648 || !ok {
		t.Errorf("Get32 of 2^31: %d, %v", got, ok)
	}
}

func TestDigitsOfSomeNumbers(t *testing.T) { // P3.2
	for _, x := range []struct {
		n, width int
		want     string
	}{
		{7, 3, "007"},
		{0, 1, "0"},
		{0, 9, "000000000"},
		{9, 1, "9"},
		{10, 1, ""},
		{10, 2, "10"},
		{99, 2, "99"},
		{100, 2, ""},
		{1203, 6, "001203"},
		{999999, 6, "999999"},
		{1000000, 6, ""},
		{123456789, 9, "123456789"},
		{123456789, 8, ""},
		{999999999, 9, "999999999"},
		{1000000000, 9, ""},
		{1000000000, 10, ""},
		{1, 10, ""},
		{1, 0, ""},
		{0, 0, ""},
		{0, -1, ""},
		{1, math.MinInt, ""},
		{1, math.MaxInt, ""},
		{-1, 1, ""},
		{-1, 9, ""},
		{-7, 3, ""},
		{math.MinInt, 9, ""},
		{math.MaxInt, 9, ""},
		{1 << 32, 1, ""},
	} {
		if got := Digits(x.n, x.width); got != x.want {
			t.Errorf("Digits(%d, %d): %q, want %q", x.n, x.width, got, x.want)
		}
	}
}

func TestDigitsAtAllWidths(t *testing.T) { // P3.2
	widths := []int{math.MinInt, math.MinInt + 1, -1 << 32, 1 << 32, 1<<32 + 3, math.MaxInt - 1, math.MaxInt}
	for width := -12; width <= 25; width++ {
		widths = append(widths, width)
	}
	for _, n := range someNumbers() {
		for _, width := range widths {
			want := ""
			if width >= 1 && width <= 9 && n >= 0 && n <= whole(width) {
				want = fmt.Sprintf("%0*d", width, n)
			}
			if got := Digits(n, width); got != want {
				t.Errorf("Digits(%d, %d): %q, want %q", n, width, got, want)
			}
		}
	}
}

func TestParseOfDigits(t *testing.T) { // P3.2
	for _, x := range []struct {
		s    string
		want int
	}{
		{"0", 0},
		{"7", 7},
		{"007", 7},
		{"10", 10},
		{"090", 90},
		{"000000000", 0},
		{"000000001", 1},
		{"100000000", 100000000},
		{"123456789", 123456789},
		{"999999999", 999999999},
	} {
		if got, ok := Parse(x.s); !ok || got != x.want {
			t.Errorf("Parse(%q): %d, %v, want %d", x.s, got, ok, x.want)
		}
	}
}

func TestParseOfWhatIsNoDigits(t *testing.T) { // P3.2
	for _, s := range []string{"", "1234567890", "0000000000", "0000000001", "4294967296", "18446744073709551617", strings.Repeat("0", 100), strings.Repeat("9", 1<<16),
		"+1", "-1", "-0", "+", "-", " 1", "1 ", "1 2", "1\n", "\n1", "1_0", "0x1", "0b1", "1e3", "1.0", ".", "1,0", "a", "1a", "a1", "00a", "12345678x", "x23456789",
		"/", ":", "0/", "0:", "\x00", "1\x00", "\x001", "\xff", "1\xff", "\xb1", "\u0663", "\uff11", "1\u0663", "\u00b2"} {
		if got, ok := Parse(s); ok || got != 0 {
			t.Errorf("Parse(%q): %d, %v, want none", s, got, ok)
		}
	}
}

func TestParseOfEachByte(t *testing.T) { // P3.2
	for _, form := range []string{"_", "1_", "_1", "1_1", "1234_6789", "12345678_", "_23456789"} {
		for b := range 256 {
			s := strings.Replace(form, "_", string([]byte{byte(b)}), 1)
			want, is := 0, true
			for _, c := range []byte(s) {
				is = is && strings.IndexByte("0123456789", c) >= 0
				want = want*10 + strings.IndexByte("0123456789", c)
			}
			if !is {
				want = 0
			}
			if got, ok := Parse(s); ok != is || got != want {
				t.Errorf("Parse(%q): %d, %v, want %d, %v", s, got, ok, want, is)
			}
		}
	}
}

func TestWhatIsPutIsGot(t *testing.T) { // P3.3
	for _, n := range someNumbers() {
		for _, ahead := range []string{"", "\xff", "ahead"} {
			for _, behind := range []string{"", "\xff", "behind"} {
				if got, ok := Get16(ahead+Put16(n)+behind, len(ahead)); !ok || got != modulo(n, 16) {
					t.Errorf("Get16 of Put16(%d), between %q and %q: %d, %v, want %d", n, ahead, behind, got, ok, modulo(n, 16))
				}
				if got, ok := Get32(ahead+Put32(n)+behind, len(ahead)); !ok || got != modulo(n, 32) {
					t.Errorf("Get32 of Put32(%d), between %q and %q: %d, %v, want %d", n, ahead, behind, got, ok, modulo(n, 32))
				}
			}
		}
	}
	for n := range 1 << 16 {
		if got, ok := Get16(Put16(n), 0); !ok || got != n {
			t.Fatalf("Get16 of Put16(%d): %d, %v", n, got, ok)
		}
	}
}

func TestWhatIsGotIsPut(t *testing.T) { // P3.3
	for _, s := range someTexts() {
		if n, ok := Get16(s, 0); ok && Put16(n) != s[:2] {
			t.Errorf("Put16 of Get16(% x): % x", s, Put16(n))
		}
		if n, ok := Get32(s, 0); ok && Put32(n) != s[:4] {
			t.Errorf("Put32 of Get32(% x): % x", s, Put32(n))
		}
	}
}

func TestDigitsAreParsedToWhatTheyAreOf(t *testing.T) { // P3.3
	for width := 1; width <= 9; width++ {
		for _, n := range someNumbers() {
			s := Digits(n, width)
			if s == "" {
				continue
			}
			if got, ok := Parse(s); !ok || got != n {
				t.Errorf("Parse of Digits(%d, %d): %d, %v", n, width, got, ok)
			}
		}
	}
	for n := range 100000 {
		s := Digits(n, 5)
		if got, ok := Parse(s); !ok || got != n || len(s) != 5 {
			t.Fatalf("Parse of Digits(%d, 5), which are %q: %d, %v", n, s, got, ok)
		}
	}
}

func TestWhatIsParsedHasTheSameDigits(t *testing.T) { // P3.3
	r := rand.New(rand.NewSource(9))
	for range 1000 {
		b := make([]byte, 1+r.Intn(9))
		for i := range b {
			b[i] = '0' + byte(r.Intn(10))
		}
		if n, ok := Parse(string(b)); !ok || Digits(n, len(b)) != string(b) {
			t.Errorf("Digits of Parse(%q): %q, %v", b, Digits(n, len(b)), ok)
		}
	}
}

func TestEveryCallTellsTheSameAgain(t *testing.T) { // P1, R1, R4
	for _, n := range someNumbers() {
		two, four, nine := Put16(n), Put32(n), Digits(n, 9)
		Put16(^n)
		Put32(^n)
		Digits(n/2, 9)
		if Put16(n) != two || Put32(n) != four || Digits(n, 9) != nine {
			t.Errorf("what is told of %d is not the same again", n)
		}
	}
	for _, s := range someTexts() {
		for _, at := range places(s) {
			a, aok := Get16(s, at)
			b, bok := Get32(s, at)
			c, cok := Get16(strings.Clone(s), at)
			d, dok := Get32(strings.Clone(s), at)
			if a != c || aok != cok || b != d || bok != dok {
				t.Errorf("what is got of % x at %d is not the same again", s, at)
			}
		}
	}
}
