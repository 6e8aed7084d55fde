package sum

import (
	"hash/crc32"
	"math"
	"math/bits"
	"math/rand"
	"strings"
	"testing"
)

// someSums are sums, at their ends too.
func someSums() []uint32 {
	l := []uint32{0, 1, 2, 127, 128, 255, 256, 1<<31 - 1, 1 << 31, 1<<31 + 1, math.MaxUint32 - 255, math.MaxUint32 - 1, math.MaxUint32, 3988292384, 3421780262}
	for i := range 32 {
		l = append(l, 1<<i, ^uint32(1<<i))
	}
	r := rand.New(rand.NewSource(2))
	for range 100 {
		l = append(l, r.Uint32())
	}
	return l
}

// someTexts are texts, of which some are no runes' bytes.
func someTexts() []string {
	l := []string{"", "a", "abc", "123456789", "\x00", "\x00\x00", "\x00\x00\x00\x00", "a\x00", "\x00a", "\n", "\xff", "\xff\xff\xff\xff",
		"\x80", "\xe2\x82", "\u20ac", "\U0001F600\n", "\xf8\x88\x80\x80\x80", strings.Repeat("\x00", 100), strings.Repeat("\u20ac\n", 300)}
	for b := range 256 {
		l = append(l, string([]byte{byte(b)}))
	}
	r := rand.New(rand.NewSource(3))
	for n := range 70 {
		l = append(l, drawn(r, n))
	}
	return append(l, drawn(r, 1<<17+1))
}

// drawn is a text of n bytes of all kinds.
func drawn(r *rand.Rand, n int) string {
	b := make([]byte, n)
	r.Read(b)
	return string(b)
}

// spelt is the chapter's rule of a step, bit by bit, the lowest first.
func spelt(sum uint32, b byte) uint32 {
	var reg [32]uint32
	for i := range reg {
		reg[i] = sum >> i & 1
		if i < 8 {
			reg[i] ^= uint32(b) >> i & 1
		}
	}
	for range 8 {
		out := reg[0]
		for i := range 31 {
			reg[i] = reg[i+1]
		}
		reg[31] = 0
		for i := range reg {
			reg[i] ^= out & (3988292384 >> i)
		}
	}
	sum = 0
	for i := range reg {
		sum |= reg[i] << i
	}
	return sum
}

// stepBack is the register that a step of b makes r of.
func stepBack(r uint32, b byte) uint32 {
	for range 8 {
		// Of what is xored the highest bit is 1, and what is shifted has 0 there.
		if r>>31 == 1 {
			r = (r^3988292384)<<1 | 1
		} else {
			r <<= 1
		}
	}
	return r ^ uint32(b)
}

// textOf is a text of four bytes that has that sum.
func textOf(sum uint32) string {
	r := ^sum
	for range 4 {
		r = stepBack(r, 0)
	}
	// The first register is all 1: four bytes that turn it into r, whose every bit they reach.
	x := r ^ math.MaxUint32
	return string([]byte{byte(x), byte(x >> 8), byte(x >> 16), byte(x >> 24)})
}

// turned is s, with the bits of mask turned from bit number at on, of each byte the lowest first.
func turned(s string, at int, mask uint32) string {
	b := []byte(s)
	for i := range 32 {
		if mask>>i&1 == 1 {
			b[(at+i)/8] ^= 1 << ((at + i) % 8)
		}
	}
	return string(b)
}

func TestStepOfSomeRegisters(t *testing.T) { // P2.1
	for _, x := range []struct {
		sum  uint32
		b    byte
		want uint32
	}{
		{0, 0, 0},
		{0, 1, 0x77073096},
		{0, 128, 3988292384},
		{0, 255, 0x2d02ef8d},
		{1, 0, 0x77073096},
		{1, 1, 0},
		{128, 0, 3988292384},
		{255, 255, 0},
		{256, 0, 1},
		{1 << 31, 0, 1 << 23},
		{1 << 31, 128, 3988292384 ^ 1<<23},
		{math.MaxUint32, 0, 0x2dfd1072},
		{math.MaxUint32, 255, 1<<24 - 1},
	} {
		if got := Step(x.sum, x.b); got != x.want {
			t.Errorf("Step(%d, %d): %d, want %d", x.sum, x.b, got, x.want)
		}
	}
}

func TestStepIsAsTheChapterSpellsIt(t *testing.T) { // P2.1
	for _, sum := range someSums() {
		for b := range 256 {
			if got, want := Step(sum, byte(b)), spelt(sum, byte(b)); got != want {
				t.Fatalf("Step(%d, %d): %d, want %d", sum, b, got, want)
			}
		}
	}
}

func TestStepTurnsNoBitsByItself(t *testing.T) { // P2.1
	for _, s := range someTexts() {
		r := uint32(math.MaxUint32)
		for i := range len(s) {
			r = Step(r, s[i])
		}
		if got := ^r; got != Of(s) {
			t.Fatalf("steps over %d bytes, turned: %d, but Of is %d", len(s), got, Of(s))
		}
	}
}

func TestOfSomeTexts(t *testing.T) { // P2.2
	for _, x := range []struct {
		s    string
		want uint32
	}{
		{"", 0},
		{"123456789", 3421780262},
		{"a", 0xe8b7be43},
		{"abc", 0x352441c2},
		{"\x00", 0xd202ef8d},
		{"\x00\x00\x00\x00", 0x2144df1c},
		{"\xff", 0xff000000},
		{"\xff\xff\xff\xff", math.MaxUint32},
		{"The quick brown fox jumps over the lazy dog", 0x414fa339},
	} {
		if got := Of(x.s); got != x.want {
			t.Errorf("Of(%q): %d, want %d", x.s, got, x.want)
		}
	}
}

func TestOfIsTheKnownSum(t *testing.T) { // P2.2
	for _, s := range someTexts() {
		if got, want := Of(s), crc32.ChecksumIEEE([]byte(s)); got != want {
			t.Fatalf("Of of %d bytes: %d, want %d", len(s), got, want)
		}
	}
}

func TestAddOfNothingIsTheSum(t *testing.T) { // P2.2
	for _, sum := range someSums() {
		if got := Add(sum, ""); got != sum {
			t.Errorf("Add(%d, nothing): %d", sum, got)
		}
	}
}

func TestAddToAnySumIsTheSumOfATextThatHasIt(t *testing.T) { // P2.2
	texts := someTexts()
	for i, sum := range someSums() {
		a := textOf(sum)
		if got := Of(a); got != sum {
			t.Fatalf("Of(% x): %d, want %d", a, got, sum)
		}
		for j, s := range texts {
			// The long texts are gone over for a few sums only.
			if len(s) > 1000 && i > 5 {
				continue
			}
			want := crc32.ChecksumIEEE([]byte(a + s))
			if got := Add(sum, s); got != want {
				t.Fatalf("Add(%d, text %d): %d, want %d", sum, j, got, want)
			}
		}
	}
}

func TestAddOfOfIsOfBoth(t *testing.T) { // P2.3
	r := rand.New(rand.NewSource(4))
	s := drawn(r, 200)
	for at := range len(s) + 1 {
		a, b := s[:at], s[at:]
		if got := Add(Of(a), b); got != Of(s) {
			t.Errorf("Add at %d: %d, want %d", at, got, Of(s))
		}
	}
	for _, a := range someTexts() {
		for _, b := range []string{"", "\x00", "b", "\xff\xff", "\u20ac\n"} {
			if got, want := Add(Of(a), b), Of(a+b); got != want {
				t.Fatalf("Add of Of of %d bytes, and %q: %d, want %d", len(a), b, got, want)
			}
		}
	}
	var sum uint32
	for i := range len(s) {
		sum = Add(sum, s[i:i+1])
	}
	if sum != Of(s) {
		t.Errorf("byte by byte: %d, want %d", sum, Of(s))
	}
}

func TestTextsUnlikeWithin32BitsHaveUnlikeSums(t *testing.T) { // P2.3
	masks := []uint32{1, 3, 5, 1<<31 | 1, 1 << 31, math.MaxUint32, 3988292384, bits.Reverse32(3988292384), 255, 1<<24 - 1, 0x55555555, 0xaaaaaaaa}
	r := rand.New(rand.NewSource(5))
	for range 300 {
		masks = append(masks, r.Uint32()|1)
	}
	for _, n := range []int{4, 5, 16, 40} {
		for _, s := range []string{drawn(r, n), strings.Repeat("\x00", n), strings.Repeat("\xff", n)} {
			sum := Of(s)
			for at := range n*8 - 31 {
				for _, m := range masks {
					if other := turned(s, at, m); Of(other) == sum {
						t.Fatalf("Of(% x) is Of(% x)", s, other)
					}
				}
			}
		}
	}
}

func TestTextsUnlikeInAFewBitsHaveUnlikeSums(t *testing.T) { // P2.3
	r := rand.New(rand.NewSource(6))
	s := drawn(r, 3)
	sums := map[uint32]int{}
	// Three bytes are fewer than 32 bits, so all texts of that length are unlike.
	for x := range 1 << 24 {
		if x%257 != 0 && x > 1<<16 {
			continue
		}
		sum := Of(string([]byte{s[0] ^ byte(x), s[1] ^ byte(x>>8), s[2] ^ byte(x>>16)}))
		if y, ok := sums[sum]; ok {
			t.Fatalf("%d and %d have the sum %d", x, y, sum)
		}
		sums[sum] = x
	}
}

func TestEveryCallTellsTheSameAgain(t *testing.T) { // P1, R1, R4
	for _, s := range someTexts() {
		if Of(s) != Of(s) || Of(s) != Of(strings.Clone(s)) {
			t.Fatalf("Of of %d bytes is not the same again", len(s))
		}
		a := Add(math.MaxUint32, s)
		Add(0, "between")
		if Add(math.MaxUint32, s) != a {
			t.Fatalf("Add of %d bytes is not the same again", len(s))
		}
	}
	for _, sum := range someSums() {
		if Step(sum, 7) != Step(sum, 7) {
			t.Errorf("Step(%d, 7) is not the same again", sum)
		}
	}
}
