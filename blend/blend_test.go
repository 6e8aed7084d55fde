package blend

import (
	"math/rand"
	"strings"
	"testing"
)

// numbered has n bytes, of which none is 0 nor as the one 32 behind it.
func numbered(n int) string {
	b := make([]byte, n)
	for i := range b {
		b[i] = byte(i%251 + 1)
	}
	return string(b)
}

// turned is s with another byte at that place.
func turned(s string, at int) string {
	b := []byte(s)
	b[at] ^= 128
	return string(b)
}

// drawn is a text of n bytes of all kinds.
func drawn(r *rand.Rand, n int) string {
	b := make([]byte, n)
	for i := range b {
		b[i] = byte(r.Intn(256))
	}
	return string(b)
}

// zeros has n bytes 0.
func zeros(n int) string { return strings.Repeat("\x00", n) }

// someTexts are texts that end within sectors and at their ends, also texts that are not valid and bytes 0 alone.
func someTexts() []string {
	l := []string{"", "a", "\x00", "\xff", "\x80\n", "\u20ac", zeros(31), zeros(32), zeros(33), zeros(96), strings.Repeat("\u20ac", 21)}
	for _, n := range []int{2, 10, 31, 32, 33, 63, 64, 65, 96, 97, 100, 128, 130} {
		s := numbered(n)
		l = append(l, s, turned(s, 0), turned(s, n-1), turned(s, n/2), turned(turned(s, 0), n-1))
	}
	return l
}

// someChoices are of each kind, alone and mixed, too few and too many.
func someChoices() []string {
	l := []string{"", "\x00", "\x01", "\x02", "\x03", "\x04", "\x05", "\xfd", "\xfe", "\xff", "\x7f\x80\x81", zeros(9), strings.Repeat("\x01", 9), strings.Repeat("\x02", 9)}
	for i := range 81 {
		l = append(l, string([]byte{byte(i % 3), byte(i / 3 % 3), byte(i / 9 % 3), byte(i / 27)}))
	}
	return l
}

// share is what the text has of the sector k, byte by byte, and how many bytes these are.
func share(s string, k int) (own [32]byte, n int) {
	for i := range len(s) {
		if i/32 == k {
			own[i%32] = s[i]
			n++
		}
	}
	return own, n
}

// mix is the chapter's rule, byte by byte.
func mix(old, now, choices string) (string, int) {
	text, end, unlike := [1 << 13]byte{}, 0, 0
	for k := 0; k*32 < len(old) || k*32 < len(now); k++ {
		a, m := share(old, k)
		b, n := share(now, k)
		if a != b || m != n {
			kind := byte(0)
			if unlike < len(choices) {
				kind = choices[unlike] % 3
			}
			unlike++
			switch kind {
			case 0:
				b, n = a, m
			case 2:
				b = [32]byte{}
			}
		}
		for i := range n {
			text[k*32+i] = b[i]
			end = k*32 + i + 1
		}
	}
	return string(text[:end]), unlike
}

// check asks for Mix of these, and holds it against what is wanted.
func check(t *testing.T, old, now, choices, want string, n int) {
	t.Helper()
	if got, m := Mix(old, now, choices); got != want || m != n {
		t.Errorf("Mix(%q, %q, %q): %q, %d, want %q, %d", old, now, choices, got, m, want, n)
	}
}

func TestMixOfOneSector(t *testing.T) { // P6.1
	for _, x := range []struct {
		old, now, choices, want string
		n                       int
	}{
		{"", "ab", "\x02", "\x00\x00", 1},
		{"", "ab", "\x01", "ab", 1},
		{"", "ab", "\x00", "", 1},
		{"", "ab", "", "", 1},
		{"ab", "", "\x00", "ab", 1},
		{"ab", "", "", "ab", 1},
		{"ab", "", "\x01", "", 1},
		// as many bytes 0 as now's slice has, whatever old's has
		{"ab", "", "\x02", "", 1},
		{"abc", "x", "\x02", "\x00", 1},
		{"a", "xyz", "\x02", "\x00\x00\x00", 1},
		{"abc", "x", "\x01", "x", 1},
		{"abc", "x", "\x00", "abc", 1},
		// nothing is unlike: no choice is asked for
		{"", "", "\x01", "", 0},
		{"ab", "ab", "\x02", "ab", 0},
		{"ab", "ab", "", "ab", 0},
		// what ends earlier is not as what has bytes 0 there
		{"a", "a\x00", "\x01", "a\x00", 1},
		{"a", "a\x00", "\x00", "a", 1},
		{"", "\x00", "\x02", "\x00", 1},
		{"\x00", "", "\x02", "", 1},
	} {
		check(t, x.old, x.now, x.choices, x.want, x.n)
	}
}

func TestChoicesAreModuloThree(t *testing.T) { // P6.1
	for c := range 256 {
		want := [3]string{"old", "now text", zeros(8)}[c%3]
		check(t, "old", "now text", string([]byte{byte(c)}), want, 1)
	}
}

func TestEachUnlikeSectorTakesTheNextChoice(t *testing.T) { // P6.1
	s := numbered(128)
	all := turned(turned(turned(turned(s, 0), 40), 80), 127)
	outer := turned(turned(s, 31), 96)
	for _, x := range []struct {
		now, choices, want string
		n                  int
	}{
		{all, "\x01\x00\x02\x01", all[:32] + s[32:64] + zeros(32) + all[96:], 4},
		{all, "\x02\x01\x00\x02", zeros(32) + all[32:64] + s[64:96] + zeros(32), 4},
		// where there are no more, it is 0
		{all, "\x01", all[:32] + s[32:], 4},
		{all, "\x01\x02", all[:32] + zeros(32) + s[64:], 4},
		{all, "\x00\x00\x00\x01", s[:96] + all[96:], 4},
		// those that are too many are not looked at
		{all, "\x01\x01\x01\x01\x02\x02", all, 4},
		// sectors that are alike take none, and stay
		{outer, "\x02\x01", zeros(32) + s[32:96] + outer[96:], 2},
		{outer, "\x01\x02", outer[:32] + s[32:96] + zeros(32), 2},
		{outer, "\x00\x01", s[:96] + outer[96:], 2},
		{outer, "\x01", outer[:32] + s[32:], 2},
		{turned(s, 70), "\x02", s[:64] + zeros(32) + s[96:], 1},
		{turned(s, 70), "\x01\x02\x02", turned(s, 70), 1},
	} {
		check(t, s, x.now, x.choices, x.want, x.n)
	}
}

func TestAGapIsBytesZero(t *testing.T) { // P6.1
	s := numbered(100)
	for _, x := range []struct {
		old, now, choices, want string
		n                       int
	}{
		// slices that are empty, ahead of one that is not
		{"", s, "\x00\x01", zeros(32) + s[32:64], 4},
		{"", s, "\x00\x00\x00\x01", zeros(96) + s[96:], 4},
		{"", s, "\x01\x00\x00\x01", s[:32] + zeros(64) + s[96:], 4},
		{s, "", "\x01\x01", zeros(64) + s[64:], 4},
		{s, "", "\x02\x02\x02", zeros(96) + s[96:], 4},
		// slices that are short, ahead of one that is not empty
		{s, "abc", "\x01", "abc" + zeros(29) + s[32:], 4},
		{s, "abc", "\x02", zeros(32) + s[32:], 4},
		{s, s[:40], "\x01", s[:40] + zeros(24) + s[64:], 3},
		{s, s[:40], "\x01\x01", s[:40] + zeros(56) + s[96:], 3},
		{"abc", s, "\x00\x01\x00\x01", "abc" + zeros(29) + s[32:64] + zeros(32) + s[96:], 4},
		{s[:33], s, "\x00\x01", s[:33] + zeros(31) + s[64:96], 3},
	} {
		check(t, x.old, x.now, x.choices, x.want, x.n)
	}
}

func TestTheTextEndsWithTheLastSliceThatIsNotEmpty(t *testing.T) { // P6.1
	s := numbered(100)
	for _, x := range []struct {
		old, now, choices, want string
		n                       int
	}{
		{s, s[:40], "\x01\x01\x01", s[:40], 3},
		{s, s[:40], "\x02\x02\x02", s[:32] + zeros(8), 3},
		{s, s[:32], "\x01\x01\x01", s[:32], 3},
		{s, s[:32], "\x02\x02\x02", s[:32], 3},
		{s, s[:32], "\x00\x01\x02", s[:64], 3},
		{s, "", "\x01\x02\x01\x02", "", 4},
		{s[:40], s, "", s[:40], 3},
		{s[:40], s, "\x01", s[:64], 3},
		{s[:40], s, "\x02\x00\x00", s[:32] + zeros(32), 3},
		{s[:40], s, "\x01\x02\x02", s[:64] + zeros(36), 3},
		{"", s, "\x02\x02\x02\x02", zeros(100), 4},
		{"", s, "\x01\x02", s[:32] + zeros(32), 4},
		// bytes 0 that a text has are not cut off
		{s, s[:32] + zeros(20), "\x01\x01\x01", s[:32] + zeros(20), 3},
		{s[:32] + zeros(20), s, "", s[:32] + zeros(20), 3},
	} {
		check(t, x.old, x.now, x.choices, x.want, x.n)
	}
}

func TestMixOfEachTwoTexts(t *testing.T) { // P6.1
	for _, old := range someTexts() {
		for _, now := range someTexts() {
			for _, choices := range someChoices() {
				want, n := mix(old, now, choices)
				if got, m := Mix(old, now, choices); got != want || m != n {
					t.Fatalf("Mix(%q, %q, %q): %q, %d, want %q, %d", old, now, choices, got, m, want, n)
				}
			}
		}
	}
}

func TestMixOfDrawnTexts(t *testing.T) { // P6.1
	r := rand.New(rand.NewSource(8))
	for range 2000 {
		old := drawn(r, r.Intn(400))
		now := old[:r.Intn(len(old)+1)]
		for range r.Intn(6) {
			if len(now) > 0 {
				now = turned(now, r.Intn(len(now)))
			}
		}
		if r.Intn(2) == 0 {
			now += drawn(r, r.Intn(200))
		}
		choices := drawn(r, r.Intn(20))
		want, n := mix(old, now, choices)
		if got, m := Mix(old, now, choices); got != want || m != n {
			t.Fatalf("Mix(%q, %q, %q): %q, %d, want %q, %d", old, now, choices, got, m, want, n)
		}
	}
}

func TestMixOfADiskFull(t *testing.T) { // P6.1
	old, now := strings.Repeat("a", 131072), strings.Repeat("b", 131072)
	check(t, old, now, strings.Repeat("\x01", 4095), now[:131040]+old[:32], 4096)
	check(t, "", now, zeros(4095)+"\x01", zeros(131040)+now[:32], 4096)
	check(t, old, old, "\x02", old, 0)
	check(t, old, turned(old, 131071), "\x02", old[:131040]+zeros(32), 1)
}

func TestChoicesOfZeroLeaveOldAndOfOneNow(t *testing.T) { // P6.2
	for _, old := range someTexts() {
		for _, now := range someTexts() {
			for _, choices := range []string{"", "\x00", zeros(9), "\x03\x06\xff\xfc\x00\x03\x06"} {
				if got, _ := Mix(old, now, choices); got != old {
					t.Fatalf("Mix(%q, %q, %q): %q, want the old text", old, now, choices, got)
				}
			}
			for _, choices := range []string{strings.Repeat("\x01", 9), "\x01\x04\xfd\xfa\x01\x04\x07"} {
				if got, _ := Mix(old, now, choices); got != now {
					t.Fatalf("Mix(%q, %q, %q): %q, want the new text", old, now, choices, got)
				}
			}
		}
	}
}

func TestMixOfTheSameTextIsThatText(t *testing.T) { // P6.2
	for _, s := range someTexts() {
		for _, choices := range someChoices() {
			if got, n := Mix(s, strings.Clone(s), choices); got != s || n != 0 {
				t.Fatalf("Mix of %q with itself by %q: %q, %d", s, choices, got, n)
			}
		}
	}
}

func TestEachByteIsOldsOrNowsOrZero(t *testing.T) { // P6.2
	for _, old := range someTexts() {
		for _, now := range someTexts() {
			for _, choices := range someChoices() {
				got, _ := Mix(old, now, choices)
				for i := range len(got) {
					if got[i] != 0 && (i >= len(old) || got[i] != old[i]) && (i >= len(now) || got[i] != now[i]) {
						t.Fatalf("Mix(%q, %q, %q): the byte %d of %q is of none", old, now, choices, i, got)
					}
				}
				if len(got) > max(len(old), len(now)) {
					t.Fatalf("Mix(%q, %q, %q) is longer than both", old, now, choices)
				}
			}
		}
	}
}

func TestEveryCallTellsTheSameAgain(t *testing.T) { // P1, R1, R4
	for _, old := range someTexts() {
		for _, now := range someTexts() {
			for _, choices := range someChoices()[:20] {
				a, m := Mix(old, now, choices)
				b, n := Mix(strings.Clone(old), strings.Clone(now), strings.Clone(choices))
				if a != b || m != n {
					t.Fatalf("Mix(%q, %q, %q) is not the same again", old, now, choices)
				}
			}
		}
	}
}
