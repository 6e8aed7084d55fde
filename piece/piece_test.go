package piece

import (
	"math"
	"math/big"
	"math/rand"
	"slices"
	"strings"
	"testing"

	"stylus/api"
)

// ends are numbers at the ends of ints, and those that 32 times wrap to small ones.
var ends = []int{math.MinInt, math.MinInt + 1, math.MinInt + 31, -1 << 59, -1 << 58, -1 << 32, -1 << 31, 1<<31 - 1, 1 << 31, 1 << 32, 1 << 58, 1<<58 + 1, 1 << 59, 1<<59 + 1, 1 << 60, math.MaxInt - 32, math.MaxInt - 31, math.MaxInt - 1, math.MaxInt}

// wrongStarts are places at which nothing is cut, wrongSizes numbers of bytes that are not.
var wrongStarts = append([]int{-131072, -33, -32, -31, -2, -1, 131073, 131104, 262144}, ends...)
var wrongSizes = append([]int{-131072, -33, -32, -31, -2, -1, 0, 131073, 131104, 262144}, ends...)

// someSizes are numbers of bytes, around the ends of sectors.
var someSizes = []int{0, 1, 2, 30, 31, 32, 33, 34, 62, 63, 64, 65, 66, 95, 96, 97, 127, 128, 129, 320, 321, 1000}

// numbered has n bytes, of which none is as the one 32 behind it.
func numbered(n int) string {
	b := make([]byte, n)
	for i := range b {
		b[i] = byte(i%251 + 1)
	}
	return string(b)
}

// turned is s with another byte at that place.
func turned(s string, at int) string {
	b := []byte(s)
	b[at] ^= 128
	return string(b)
}

// drawn is a text of n bytes of all kinds.
func drawn(r *rand.Rand, n int) string {
	b := make([]byte, n)
	for i := range b {
		b[i] = byte(r.Intn(256))
	}
	return string(b)
}

// someTexts are texts that end within sectors and at their ends, also texts that are not valid.
func someTexts() []string {
	l := []string{"a", "\x00", "\xff", "\x80\n", "\u20ac", strings.Repeat("\x00", 31), strings.Repeat("\x00", 32), strings.Repeat("\x00", 33),
		strings.Repeat("\u20ac", 21), strings.Repeat("\U0001F600\n", 40), strings.Repeat("\xff", 64), strings.Repeat("\x80", 95)}
	r := rand.New(rand.NewSource(5))
	for _, n := range someSizes {
		l = append(l, numbered(n), drawn(r, n))
		if n > 0 {
			l = append(l, turned(numbered(n), n-1), turned(numbered(n), n/2), turned(numbered(n), 0))
		}
	}
	return l
}

// cut is the chapter's rule of a cut, byte by byte.
func cut(at, n int) []Span {
	var l []Span
	for i := at; i < at+n; i++ {
		if i == at || i%32 == 0 {
			l = append(l, Span{i, i})
		}
		l[len(l)-1].End++
	}
	return l
}

// slice is the chapter's rule of a sector's slice, byte by byte.
func slice(s string, k int) string {
	own := ""
	for i := range len(s) {
		if i/32 == k {
			own += s[i : i+1]
		}
	}
	return own
}

// unlike is the chapter's rule of unlike sectors, byte by byte.
func unlike(a, b string) []int {
	var l []int
	for i := range max(len(a), len(b)) {
		same := i < len(a) && i < len(b) && a[i] == b[i]
		if !same && (len(l) == 0 || l[len(l)-1] != i/32) {
			l = append(l, i/32)
		}
	}
	return l
}

func TestCountOfSomeNumbers(t *testing.T) { // P5.1
	for _, x := range []struct{ n, want int }{
		{math.MinInt, 0},
		{math.MinInt + 1, 0},
		{-33, 0},
		{-32, 0},
		{-31, 0},
		{-1, 0},
		{0, 0},
		{1, 1},
		{31, 1},
		{32, 1},
		{33, 2},
		{63, 2},
		{64, 2},
		{65, 3},
		{131071, 4096},
		{131072, 4096},
		{131073, 4097},
		{1 << 32, 1 << 27},
		{math.MaxInt - 32, 1<<58 - 1},
		{math.MaxInt - 31, 1<<58 - 1},
		{math.MaxInt - 30, 1 << 58},
		{math.MaxInt - 1, 1 << 58},
		{math.MaxInt, 1 << 58},
	} {
		if got := Count(x.n); got != x.want {
			t.Errorf("Count(%d): %d, want %d", x.n, got, x.want)
		}
	}
}

func TestCountGrowsWithEachSectorThatIsBegun(t *testing.T) { // P5.1
	want := 0
	for n := 1; n <= 5000; n++ {
		if n%32 == 1 {
			want++
		}
		if got := Count(n); got != want {
			t.Fatalf("Count(%d): %d, want %d", n, got, want)
		}
	}
}

func TestCountDoesNotWrap(t *testing.T) { // P5.1, R6
	r := rand.New(rand.NewSource(6))
	for range 1000 {
		n := int(r.Uint64() >> (1 + r.Intn(60)))
		b := new(big.Int).Add(big.NewInt(int64(n)), big.NewInt(31))
		want := int(b.Rsh(b, 5).Int64())
		if got := Count(n); got != want {
			t.Errorf("Count(%d): %d, want %d", n, got, want)
		}
	}
}

func TestCutOfSomeBytes(t *testing.T) { // P5.1
	for _, x := range []struct {
		at, n int
		want  []Span
	}{
		{30, 4, []Span{{30, 32}, {32, 34}}},
		{0, 1, []Span{{0, 1}}},
		{0, 31, []Span{{0, 31}}},
		{0, 32, []Span{{0, 32}}},
		{0, 33, []Span{{0, 32}, {32, 33}}},
		{0, 64, []Span{{0, 32}, {32, 64}}},
		{1, 31, []Span{{1, 32}}},
		{1, 32, []Span{{1, 32}, {32, 33}}},
		{31, 1, []Span{{31, 32}}},
		{31, 2, []Span{{31, 32}, {32, 33}}},
		{31, 34, []Span{{31, 32}, {32, 64}, {64, 65}}},
		{32, 1, []Span{{32, 33}}},
		{33, 1, []Span{{33, 34}}},
		{40, 3, []Span{{40, 43}}},
		{64, 96, []Span{{64, 96}, {96, 128}, {128, 160}}},
		{131071, 1, []Span{{131071, 131072}}},
		{131071, 2, []Span{{131071, 131072}, {131072, 131073}}},
		{131072, 1, []Span{{131072, 131073}}},
		{131072, 33, []Span{{131072, 131104}, {131104, 131105}}},
	} {
		if got := Cut(x.at, x.n); !slices.Equal(got, x.want) {
			t.Errorf("Cut(%d, %d): %v, want %v", x.at, x.n, got, x.want)
		}
	}
}

func TestCutIsAtMultiplesOf32(t *testing.T) { // P5.1
	for at := range 100 {
		for n := 1; n <= 200; n++ {
			if got, want := Cut(at, n), cut(at, n); !slices.Equal(got, want) {
				t.Fatalf("Cut(%d, %d): %v, want %v", at, n, got, want)
			}
		}
	}
	for _, at := range []int{0, 1, 31, 32, 65536, 131041, 131071, 131072} {
		for _, n := range []int{1, 31, 32, 33, 65537, 131041, 131071, 131072} {
			if got, want := Cut(at, n), cut(at, n); !slices.Equal(got, want) {
				t.Fatalf("Cut(%d, %d) has %d spans, want %d", at, n, len(got), len(want))
			}
		}
	}
}

func TestCutOfWhatMayNotBeIsNone(t *testing.T) { // P5.1, R1
	starts := append([]int{0, 1, 31, 32, 131072}, wrongStarts...)
	sizes := append([]int{1, 31, 32, 33, 131072}, wrongSizes...)
	for _, at := range starts {
		for _, n := range sizes {
			if !slices.Contains(wrongStarts, at) && !slices.Contains(wrongSizes, n) {
				continue
			}
			if got := Cut(at, n); len(got) != 0 {
				t.Errorf("Cut(%d, %d) has %d spans", at, n, len(got))
			}
		}
	}
}

func TestSliceOfSomeSectors(t *testing.T) { // P5.2
	s := numbered(70)
	for _, x := range []struct {
		s    string
		k    int
		want string
	}{
		{s, 0, s[:32]},
		{s, 1, s[32:64]},
		{s, 2, s[64:]},
		{s, 3, ""},
		{s, -1, ""},
		{s[:64], 1, s[32:64]},
		{s[:64], 2, ""},
		{s[:65], 2, s[64:65]},
		{s[:33], 1, s[32:33]},
		{s[:32], 0, s[:32]},
		{s[:32], 1, ""},
		{s[:31], 0, s[:31]},
		{s[:1], 0, s[:1]},
		{s[:1], 1, ""},
		{"", 0, ""},
		{"", -1, ""},
		{"", 1, ""},
		// runes that are cut
		{strings.Repeat("\u20ac", 11), 0, strings.Repeat("\u20ac", 10) + "\xe2\x82"},
		{strings.Repeat("\u20ac", 11), 1, "\xac"},
		{strings.Repeat("\x00", 33), 1, "\x00"},
	} {
		if got := Slice(x.s, x.k); got != x.want {
			t.Errorf("Slice(%q, %d): %q, want %q", x.s, x.k, got, x.want)
		}
	}
}

func TestSliceOfEachSector(t *testing.T) { // P5.2
	for _, s := range someTexts() {
		for k := -3; k < len(s)/32+4; k++ {
			if got, want := Slice(s, k), slice(s, k); got != want {
				t.Fatalf("Slice(%q, %d): %q, want %q", s, k, got, want)
			}
		}
	}
}

func TestSliceOfASectorThatThereIsNotIsNothing(t *testing.T) { // P5.2, R1, R6
	for _, s := range someTexts() {
		for _, k := range append([]int{-1, -2, -32, (len(s) + 31) / 32, len(s)/32 + 1, len(s) + 1}, ends...) {
			if got := Slice(s, k); got != "" {
				t.Fatalf("Slice(%q, %d): %q", s, k, got)
			}
		}
	}
}

func TestUnlikeOfSomeTexts(t *testing.T) { // P5.2
	s := numbered(100)
	for _, x := range []struct {
		a, b string
		want []int
	}{
		{"", "", nil},
		{s, s, nil},
		{"", "a", []int{0}},
		{"a", "b", []int{0}},
		{"a", "ab", []int{0}},
		{"", s, []int{0, 1, 2, 3}},
		{"", s[:96], []int{0, 1, 2}},
		{s[:32], s[:33], []int{1}},
		{s[:31], s[:32], []int{0}},
		{s[:32], s[:64], []int{1}},
		{s[:33], s[:64], []int{1}},
		{s[:40], s, []int{1, 2, 3}},
		{s[:99], s, []int{3}},
		{s, turned(s, 0), []int{0}},
		{s, turned(s, 31), []int{0}},
		{s, turned(s, 32), []int{1}},
		{s, turned(s, 63), []int{1}},
		{s, turned(s, 64), []int{2}},
		{s, turned(s, 99), []int{3}},
		{s, turned(turned(s, 5), 70), []int{0, 2}},
		{turned(s, 40), turned(s, 70), []int{1, 2}},
		{turned(s, 40), s[:64], []int{1, 2, 3}},
		// bytes 0 are bytes: what ends earlier is not as what has them there
		{"a", "a\x00", []int{0}},
		{"", "\x00", []int{0}},
		{s[:32], s[:32] + "\x00", []int{1}},
		{strings.Repeat("\x00", 32), strings.Repeat("\x00", 96), []int{1, 2}},
		// what is moved is unlike, though it has the same bytes
		{s[:64], s[32:64] + s[:32], []int{0, 1}},
		{s[:96], s[:32] + s[:64], []int{1, 2}},
	} {
		if got := Unlike(x.a, x.b); !slices.Equal(got, x.want) {
			t.Errorf("Unlike(%q, %q): %v, want %v", x.a, x.b, got, x.want)
		}
		if got := Unlike(x.b, x.a); !slices.Equal(got, x.want) {
			t.Errorf("Unlike(%q, %q): %v, want %v", x.b, x.a, got, x.want)
		}
	}
}

func TestUnlikeOfEachTwoTexts(t *testing.T) { // P5.2
	for _, a := range someTexts() {
		for _, b := range someTexts() {
			if got, want := Unlike(a, b), unlike(a, b); !slices.Equal(got, want) {
				t.Fatalf("Unlike(%q, %q): %v, want %v", a, b, got, want)
			}
		}
	}
}

func TestUnlikeOfADiskFull(t *testing.T) { // P5.2
	s := strings.Repeat("\x00", 131072)
	if got := Unlike(s, s); len(got) != 0 {
		t.Errorf("%d sectors of the same text are unlike", len(got))
	}
	if got := Unlike(s, turned(s, 131071)); !slices.Equal(got, []int{4095}) {
		t.Errorf("%d sectors are unlike, where the last one is", len(got))
	}
	all := Unlike(s, "")
	for k := range 4096 {
		if len(all) != 4096 || all[k] != k {
			t.Fatalf("%d sectors are unlike, where all 4096 are", len(all))
		}
	}
}

func TestAllSlicesAreTheText(t *testing.T) { // P5.3
	for _, s := range someTexts() {
		whole := ""
		for k := range Count(len(s)) {
			own := Slice(s, k)
			if own == "" || len(own) > api.Sector || len(own) < api.Sector && k != Count(len(s))-1 {
				t.Fatalf("the sector %d of %q has %d bytes", k, s, len(own))
			}
			whole += own
		}
		if whole != s {
			t.Fatalf("all slices of %q are %q", s, whole)
		}
	}
}

func TestSpansFollowEachOtherWithoutAGap(t *testing.T) { // P5.3
	r := rand.New(rand.NewSource(7))
	for range 500 {
		at, n := r.Intn(131073), 1+r.Intn(131072)
		next := at
		for _, span := range Cut(at, n) {
			if span.At != next || span.End <= span.At || span.At/32 != (span.End-1)/32 {
				t.Fatalf("Cut(%d, %d) has %v, where one from %d on follows", at, n, span, next)
			}
			next = span.End
		}
		if next != at+n {
			t.Fatalf("Cut(%d, %d) ends at %d", at, n, next)
		}
	}
}

func TestSpansOfATextAreItsSlices(t *testing.T) { // P5.3
	for _, s := range someTexts() {
		l := Cut(0, len(s))
		if len(l) != Count(len(s)) {
			t.Fatalf("%q has %d spans, and %d sectors", s, len(l), Count(len(s)))
		}
		for k, span := range l {
			if got, want := Slice(s, k), s[span.At:span.End]; got != want {
				t.Fatalf("Slice(%q, %d): %q, but its span is %q", s, k, got, want)
			}
		}
	}
}

func TestAnswersAreNewMemory(t *testing.T) { // R3
	a, b := numbered(100), turned(turned(numbered(100), 1), 99)
	spans, numbers := Cut(30, 100), Unlike(a, b)
	for _, room := range [][]Span{spans, spans[:cap(spans)]} {
		for i := range room {
			room[i] = Span{-1, -1}
		}
	}
	for _, room := range [][]int{numbers, numbers[:cap(numbers)]} {
		for i := range room {
			room[i] = -1
		}
	}
	if got := Cut(30, 100); !slices.Equal(got, cut(30, 100)) {
		t.Errorf("Cut(30, 100), once an answer was changed: %v", got)
	}
	if got := Unlike(a, b); !slices.Equal(got, []int{0, 3}) {
		t.Errorf("Unlike, once an answer was changed: %v", got)
	}
}

func TestEveryCallTellsTheSameAgain(t *testing.T) { // P1, R1, R4
	for _, n := range append(append([]int{}, someSizes...), ends...) {
		if Count(n) != Count(n) {
			t.Errorf("Count(%d) is not the same again", n)
		}
		for _, at := range append(append([]int{}, someSizes...), ends...) {
			if !slices.Equal(Cut(at, n), Cut(at, n)) {
				t.Errorf("Cut(%d, %d) is not the same again", at, n)
			}
		}
	}
	for _, s := range someTexts() {
		for _, k := range append([]int{-1, 0, 1, 2, 31}, ends...) {
			if Slice(s, k) != Slice(strings.Clone(s), k) {
				t.Errorf("Slice(%q, %d) is not the same again", s, k)
			}
		}
		if len(Unlike(s, strings.Clone(s))) != 0 {
			t.Errorf("%q is unlike itself", s)
		}
	}
}
