package utf

import (
	"fmt"
	"math"
	"strings"
	"testing"
	"unicode/utf8"
)

// wrongRunes are numbers that are no runes, at the ends of what is none.
var wrongRunes = []rune{math.MinInt32, -2097152, -1, 55296, 55297, 56320, 57342, 57343, 1114112, 1114113, 2097151, 2097152, math.MaxInt32}

// endRunes are runes at the ends of each length of their bytes.
var endRunes = []rune{0, 1, 10, 'a', 127, 128, 129, 2047, 2048, 8364, 55295, 57344, 65533, 65534, 65535, 65536, 128512, 1114110, 1114111}

// kinds has bytes of each kind, at the kinds' ends.
var kinds = []byte{0, 10, 'a', 127, 128, 143, 144, 159, 160, 191, 192, 193, 194, 223, 224, 225, 236, 237, 238, 239, 240, 241, 243, 244, 245, 247, 248, 251, 252, 255}

// laid is the chapter's rule of a rune's bytes, spelt out.
func laid(c rune) []byte {
	low := func(shift int) byte { return byte(128 + c>>shift&63) }
	switch {
	case c < 128:
		return []byte{byte(c)}
	case c < 2048:
		return []byte{byte(192 + c>>6), low(0)}
	case c < 65536:
		return []byte{byte(224 + c>>12), low(6), low(0)}
	}
	return []byte{byte(240 + c>>18), low(12), low(6), low(0)}
}

// isRune is the chapter's rule of what a rune is.
func isRune(c rune) bool {
	return c >= 0 && c <= 1114111 && !(c >= 55296 && c <= 57343)
}

// taken is what the library finds at the beginning of s.
func taken(s string) (rune, int) {
	c, n := utf8.DecodeRuneInString(s)
	if c == utf8.RuneError && n < 2 {
		return 0, 0
	}
	return c, n
}

// eachText gives f all texts of exactly n bytes of those kinds.
func eachText(n int, f func(s string)) {
	b := make([]byte, n)
	var fill func(at int)
	fill = func(at int) {
		if at == n {
			f(string(b))
			return
		}
		for _, k := range kinds {
			b[at] = k
			fill(at + 1)
		}
	}
	fill(0)
}

// someTexts are texts that are valid and texts that are not.
func someTexts() []string {
	l := []string{"", "a", "\n", "\n\n", "a\nb\r\nc", "a\u20acb", "\u20ac", "\u00e9\U0001F600x\n", "\ufffd", "\ufffd\ufffd\n",
		"\xff", "a\xff", "\x80", "\x80\x80\x80\x80\x80\x80", "\x80\n\x80", "\xe2\x82", "\xe2\n\x82", "\xf0\x9f\x98", "\xc0\x80", "\xed\xa0\x80",
		"\xf4\x90\x80\x80", "\xf8\x88\x80\x80\x80", "\ufffd\xff\ufffd", "a\u20ac\x82\xac", strings.Repeat("\u20ac\n", 300)}
	for n := range 3 {
		eachText(n, func(s string) { l = append(l, s) })
	}
	return l
}

// places are places of s, of which there are some that it does not have.
func places(s string) []int {
	l := []int{math.MinInt, math.MinInt + 1, -2, -1, len(s) + 1, len(s) + 2, math.MaxInt - 1, math.MaxInt}
	for at := range len(s) + 1 {
		l = append(l, at)
	}
	return l
}

func TestPutLaysEachRuneAsTheChapterSays(t *testing.T) { // P1.1
	for c := rune(0); c <= 1114111; c++ {
		want := ""
		if isRune(c) {
			want = string(laid(c))
		}
		if got := Put(c); got != want {
			t.Fatalf("Put(%d): % x, want % x", c, got, want)
		}
	}
	if got := fmt.Sprintf("% X", Put(8364)); got != "E2 82 AC" {
		t.Errorf("Put(8364): %s", got)
	}
}

func TestPutOfWhatIsNoRuneIsNothing(t *testing.T) { // P1.1
	for _, c := range wrongRunes {
		if got := Put(c); got != "" {
			t.Errorf("Put(%d): % x", c, got)
		}
	}
}

func TestTakeAtPlaces(t *testing.T) { // P1.1
	for _, x := range []struct {
		s  string
		at int
		c  rune
		n  int
	}{
		{"a\u20acb", 0, 'a', 1},
		{"a\u20acb", 1, 8364, 3},
		{"a\u20acb", 2, 0, 0},
		{"a\u20acb", 3, 0, 0},
		{"a\u20acb", 4, 'b', 1},
		{"a\u20acb", 5, 0, 0},
		{"\x00", 0, 0, 1},
		{"\xff\u00e9", 1, 233, 2},
		{"\U0001F600", 0, 128512, 4},
		{"\ufffd", 0, 65533, 3},
		{"\u20ac", 3, 0, 0},
		// too few bytes
		{"\xc3", 0, 0, 0},
		{"\xe2\x82", 0, 0, 0},
		{"\xf0\x9f\x98", 0, 0, 0},
		{"\xe2\x82a", 0, 0, 0},
		{"\xe2a\x82", 0, 0, 0},
		// more bytes than the number needs
		{"\xc0\x80", 0, 0, 0},
		{"\xc1\xbf", 0, 0, 0},
		{"\xe0\x9f\xbf", 0, 0, 0},
		{"\xf0\x8f\xbf\xbf", 0, 0, 0},
		// numbers that are no runes
		{"\xed\xa0\x80", 0, 0, 0},
		{"\xed\xbf\xbf", 0, 0, 0},
		{"\xf4\x90\x80\x80", 0, 0, 0},
		{"\xf7\xbf\xbf\xbf", 0, 0, 0},
		{"\xf8\x88\x80\x80\x80", 0, 0, 0},
		{"\xff\xbf\xbf\xbf\xbf\xbf", 0, 0, 0},
	} {
		if c, n := Take(x.s, x.at); c != x.c || n != x.n {
			t.Errorf("Take(%q, %d): %d, %d, want %d, %d", x.s, x.at, c, n, x.c, x.n)
		}
	}
}

func TestTakeOfAPlaceThatThereIsNot(t *testing.T) { // P1.1
	for _, s := range someTexts() {
		for _, at := range places(s) {
			if at >= 0 && at < len(s) {
				continue
			}
			if c, n := Take(s, at); c != 0 || n != 0 {
				t.Fatalf("Take(%q, %d): %d, %d", s, at, c, n)
			}
		}
	}
}

func TestTakeOfAllKindsOfBytes(t *testing.T) { // P1.1
	for n := range 5 {
		eachText(n, func(s string) {
			c, k := Take(s, 0)
			if a, b := taken(s); c != a || k != b {
				t.Fatalf("Take(%q, 0): %d, %d, want %d, %d", s, c, k, a, b)
			}
			if a, b := Take("\u20ac"+s+"a", 3); len(s) > 0 && k > 0 && (a != c || b != k) {
				t.Fatalf("Take of %q behind and ahead of others: %d, %d, want %d, %d", s, a, b, c, k)
			}
		})
	}
}

func TestBad(t *testing.T) { // P1.2
	for _, x := range []struct {
		s  string
		at int
	}{
		{"", -1},
		{"a", -1},
		{"a\u00e9\u20ac\U0001F600\x00\n", -1},
		{"\ufffd", -1},
		{"\ufffd\ufffda", -1},
		{"a\xff", 1},
		{"\x80", 0},
		{"\ufffd\xff", 3},
		{"\u20ac\x82\xac", 3},
		{"\u20ac\u20ac\xe2\x82", 6},
		{"\xe2\x82\u20ac", 0},
		{"\xef\xbf", 0},
		{"a\xc0\x80", 1},
		{"ab\xed\xa0\x80", 2},
		{"\U0010FFFF\xf4\x90\x80\x80", 4},
		{"\xff\xff", 0},
		{strings.Repeat("\u20ac", 1000) + "\xac", 3000},
	} {
		if got := Bad(x.s); got != x.at {
			t.Errorf("Bad(%q): %d, want %d", x.s, got, x.at)
		}
	}
}

func TestBadAndValidOfAllKindsOfBytes(t *testing.T) { // P1.2
	firstBad := func(s string) int {
		for at := 0; at < len(s); {
			_, n := taken(s[at:])
			if n == 0 {
				return at
			}
			at += n
		}
		return -1
	}
	look := func(s string) {
		want := firstBad(s)
		if got := Bad(s); got != want {
			t.Fatalf("Bad(%q): %d, want %d", s, got, want)
		}
		if got := Valid(s); got != (want == -1) {
			t.Fatalf("Valid(%q): %t, but Bad is %d", s, got, want)
		}
	}
	for n := range 5 {
		eachText(n, look)
	}
	for _, s := range someTexts() {
		look(s)
	}
}

func TestEdge(t *testing.T) { // P1.3
	for _, x := range []struct {
		s    string
		want string // a + for each place from -1 to one behind the end that is an edge
	}{
		{"", "-+-"},
		{"ab", "-+++-"},
		{"\u20ac", "-+--+-"},
		{"a\u20acb", "-++--++-"},
		{"\U0001F600\u00e9", "-+---+-+-"},
		{"\x80\xbf\x80", "-+--+-"},
		{"a\x7f\x80\xbf\xc0\xff", "-++--+++-"},
	} {
		got := ""
		for at := -1; at <= len(x.s)+1; at++ {
			if Edge(x.s, at) {
				got += "+"
			} else {
				got += "-"
			}
		}
		if got != x.want {
			t.Errorf("edges of %q: %s, want %s", x.s, got, x.want)
		}
	}
}

func TestEdgeAndBackAtAllPlaces(t *testing.T) { // P1.3
	for _, s := range someTexts() {
		edges := map[int]int{0: 1, len(s): 1}
		for at, b := range []byte(s) {
			if b < 128 || b > 191 {
				edges[at] = 1
			}
		}
		for _, at := range places(s) {
			if got := Edge(s, at); got != (edges[at] == 1) {
				t.Fatalf("Edge(%q, %d): %t", s, at, got)
			}
			want := 0
			for e := range edges {
				if e <= at {
					want = max(want, e)
				}
			}
			if got := Back(s, at); got != want {
				t.Fatalf("Back(%q, %d): %d, want %d", s, at, got, want)
			}
		}
	}
}

func TestBack(t *testing.T) { // P1.3
	for _, x := range []struct {
		s        string
		at, want int
	}{
		{"", 0, 0},
		{"", 5, 0},
		{"", -5, 0},
		{"a\u20acb", -1, 0},
		{"a\u20acb", math.MinInt, 0},
		{"a\u20acb", 1, 1},
		{"a\u20acb", 2, 1},
		{"a\u20acb", 3, 1},
		{"a\u20acb", 4, 4},
		{"a\u20acb", 5, 5},
		{"a\u20acb", 6, 5},
		{"a\u20acb", math.MaxInt, 5},
		{"\x80\x80\x80", 2, 0},
		{"\x80\x80\x80", 3, 3},
		{"\xe2\x82", 1, 0},
	} {
		if got := Back(x.s, x.at); got != x.want {
			t.Errorf("Back(%q, %d): %d, want %d", x.s, x.at, got, x.want)
		}
	}
}

func TestRunesAndLines(t *testing.T) { // P1.3
	for _, x := range []struct {
		s            string
		runes, lines int
	}{
		{"", 0, 0},
		{"a", 1, 0},
		{"a\n", 2, 1},
		{"\r\n\n\u20ac\n", 5, 3},
		{"\u00e9\u20ac\U0001F600\ufffd", 4, 0},
		{"\u010a\u0a0a\u2028\u0085", 4, 0},
		{"\x80\xbf", 0, 0},
		{"\x80\n\xbf", 1, 1},
		{"\xe2\x82", 1, 0},
		{"\xe2\n\xac\n", 3, 2},
		{"\xc0\xff\x80\xf0\x9f", 3, 0},
	} {
		if r, l := Runes(x.s), Lines(x.s); r != x.runes || l != x.lines {
			t.Errorf("Runes and Lines of %q: %d, %d, want %d, %d", x.s, r, l, x.runes, x.lines)
		}
	}
}

func TestRunesAndLinesOfAllKindsOfBytes(t *testing.T) { // P1.3
	for n := range 5 {
		eachText(n, func(s string) {
			runes, lines := 0, 0
			for _, b := range []byte(s) {
				if b < 128 || b > 191 {
					runes++
				}
				if b == 10 {
					lines++
				}
			}
			if r, l := Runes(s), Lines(s); r != runes || l != lines {
				t.Fatalf("Runes and Lines of %q: %d, %d, want %d, %d", s, r, l, runes, lines)
			}
		})
	}
}

func TestWhatIsPutIsTaken(t *testing.T) { // P1.4
	for c := rune(0); c <= 1114111; c++ {
		if !isRune(c) {
			continue
		}
		s := Put(c)
		if got, n := Take(s, 0); got != c || n != len(s) {
			t.Fatalf("Take(Put(%d), 0): %d, %d", c, got, n)
		}
	}
	for _, c := range endRunes {
		s := "\x80\u20ac" + Put(c) + "\xbfz"
		if got, n := Take(s, 4); got != c || n != len(Put(c)) {
			t.Errorf("Take of %d within others: %d, %d", c, got, n)
		}
	}
}

func TestValidTextsBehindOneAnotherAreValid(t *testing.T) { // P1.4
	for _, a := range endRunes {
		for _, b := range endRunes {
			for _, c := range endRunes {
				s := Put(a) + Put(b) + Put(c)
				if !Valid(s) || Bad(s) != -1 || Runes(s) != 3 {
					t.Fatalf("%q: %t, %d, %d", s, Valid(s), Bad(s), Runes(s))
				}
			}
		}
	}
}

func TestWhatLiesBetweenEdgesIsValid(t *testing.T) { // P1.4
	long := ""
	for _, c := range endRunes {
		long += Put(c)
	}
	for from := range len(long) + 1 {
		for to := from; to <= len(long); to++ {
			if Edge(long, from) && Edge(long, to) {
				if !Valid(long[from:to]) {
					t.Fatalf("%d to %d of %q is not valid", from, to, long)
				}
			}
		}
		if !Edge(long, from) && (Valid(long[:from]) || Valid(long[from:])) {
			t.Fatalf("%d of %q is no edge, but no rune is cut there", from, long)
		}
	}
}

func TestEveryCallEndsAndTellsTheSameAgain(t *testing.T) { // P1, R1, R4
	for _, c := range append(append([]rune{}, endRunes...), wrongRunes...) {
		if Put(c) != Put(c) {
			t.Errorf("Put(%d) is not the same again", c)
		}
	}
	for _, s := range someTexts() {
		for _, at := range places(s) {
			tell := func() string {
				c, n := Take(s, at)
				return fmt.Sprint(c, n, Valid(s), Bad(s), Edge(s, at), Back(s, at), Runes(s), Lines(s))
			}
			if a, b := tell(), tell(); a != b {
				t.Fatalf("%q at %d: %s, then %s", s, at, a, b)
			}
		}
	}
}
