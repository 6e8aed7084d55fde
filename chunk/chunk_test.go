package chunk

import (
	"math/rand"
	"slices"
	"strings"
	"testing"
	"unicode/utf8"
)

// Runes of one to four bytes.
const (
	one   = "a"
	two   = "\u00e9"
	three = "\u20ac"
	four  = "\U0001f600"
)

// speltFits is the chapter's rule of what a chunk is.
func speltFits(s string) bool {
	return len(s) >= 1 && len(s) <= 16 && utf8.ValidString(s)
}

// speltTight is the chapter's rule of chunks that are tight.
func speltTight(l []string) bool {
	for i := range l {
		if !speltFits(l[i]) {
			return false
		}
	}
	for i := 1; i < len(l); i++ {
		if len(l[i-1])+len(l[i]) <= 16 {
			return false
		}
	}
	return true
}

// speltBack is the greatest edge of a text that is not above at.
func speltBack(s string, at int) int {
	best := 0
	for i := range len(s) + 1 {
		if i <= at && (i == len(s) || i == 0 || s[i] < 128 || s[i] > 191) {
			best = i
		}
	}
	return best
}

// speltCut is the chapter's rule of how a text is cut.
func speltCut(s string) []string {
	if !utf8.ValidString(s) {
		return nil
	}
	var l []string
	for len(s) > 16 {
		n := speltBack(s, 16)
		l, s = append(l, s[:n]), s[n:]
	}
	if len(s) > 0 {
		l = append(l, s)
	}
	if k := len(l); k >= 2 && len(l[k-2])+len(l[k-1]) <= 16 {
		l = append(l[:k-2], l[k-2]+l[k-1])
	}
	return l
}

// speltHalf is the chapter's rule of a text's halves.
func speltHalf(s string) [2]string {
	n := 0
	for 2*n < len(s) {
		n++
	}
	n = speltBack(s, n)
	return [2]string{s[:n], s[n:]}
}

// speltJoin is the chapter's rule of what two chunks are together.
func speltJoin(a, b string) []string {
	if !speltFits(a) || !speltFits(b) {
		return nil
	}
	if len(a)+len(b) <= 16 {
		return []string{a + b}
	}
	l := speltHalf(a + b)
	if speltFits(l[0]) && speltFits(l[1]) {
		return l[:]
	}
	return []string{a, b}
}

// someTexts are texts about as long as a chunk or two, with runes of each size where they may be cut, and such as are not valid.
func someTexts() []string {
	l := []string{"", "\n", "\x00", "\xff", "\x80", "\xe2\x82", "a\xff", "\xffa", "\xc0\x80", "\xed\xa0\x80", "\xf4\x90\x80\x80", "\ufffd", "\x80\x80\x80\x80\x80"}
	for n := range 40 {
		l = append(l, strings.Repeat(one, n), strings.Repeat("\x80", n), strings.Repeat(one, n)+"\xff")
		for _, r := range []string{two, three, four} {
			l = append(l, strings.Repeat(one, n)+r, strings.Repeat(one, n)+r+one, strings.Repeat(one, n)+r+strings.Repeat(one, 20), strings.Repeat(r, n), strings.Repeat(r, n)+one, one+strings.Repeat(r, n))
		}
		for _, bad := range []string{"\x80", "\xe2\x82", "\xf0\x9f\x98"} {
			l = append(l, strings.Repeat(one, n)+bad, strings.Repeat(one, n)+bad+strings.Repeat(one, 12))
		}
	}
	return append(l, strings.Repeat(one, 4096), strings.Repeat(three, 1365)+one, strings.Repeat(four, 1024), strings.Repeat(one+four, 819))
}

// eachOfSizes calls a function of each text of runes of 1 to 4 bytes that has at most so many bytes.
func eachOfSizes(most int, f func(s string)) {
	var more func(s string)
	more = func(s string) {
		f(s)
		for _, r := range []string{one, two, three, four} {
			if len(s)+len(r) <= most {
				more(s + r)
			}
		}
	}
	more("")
}

// drawn is a text of runes of all sizes, about so many bytes long.
func drawn(r *rand.Rand, long int) string {
	b := []byte{}
	kinds := 1 + r.Intn(4)
	for len(b) < long {
		b = append(b, []string{one, four, three, two}[r.Intn(kinds)]...)
	}
	return string(b)
}

// drawnChunk is a chunk of runes of all sizes.
func drawnChunk(r *rand.Rand) string {
	s := drawn(r, 1+r.Intn(18))
	return s[:speltBack(s, 16)]
}

// wantPieces holds what was cut or joined against these pieces.
func wantPieces(t *testing.T, what string, got, want []string) {
	t.Helper()
	if !slices.Equal(got, want) {
		t.Fatalf("%s: %q, want %q", what, got, want)
	}
}

// wantHalf holds both halves of a text against these.
func wantHalf(t *testing.T, s, a, b string) {
	t.Helper()
	if c, d := Half(s); c != a || d != b {
		t.Fatalf("Half(%q): %q, %q, want %q, %q", s, c, d, a, b)
	}
}

func TestFits(t *testing.T) { // P15.1
	for _, x := range []struct {
		s    string
		want bool
	}{
		{"a", true}, {"\x00", true}, {"\n", true}, {four, true}, {"\ufffd", true}, {strings.Repeat(one, 15), true}, {strings.Repeat(one, 16), true}, {strings.Repeat(four, 4), true}, {strings.Repeat(three, 5) + one, true},
		{"", false}, {strings.Repeat(one, 17), false}, {strings.Repeat(three, 5) + two, false}, {strings.Repeat(four, 4) + one, false}, {strings.Repeat(one, 4096), false},
		{"\xff", false}, {"\x80", false}, {"a\xe2\x82", false}, {"\xed\xa0\x80", false}, {"\xc0\x80", false}, {"\xf4\x90\x80\x80", false}, {strings.Repeat(one, 15) + "\xff", false},
	} {
		if got := Fits(x.s); got != x.want {
			t.Errorf("Fits(%.30q): %v", x.s, got)
		}
	}
	for _, s := range someTexts() {
		if got := Fits(s); got != speltFits(s) {
			t.Errorf("Fits(%.30q): %v", s, got)
		}
	}
}

func TestTight(t *testing.T) { // P15.1
	long, eight := strings.Repeat(one, 16), strings.Repeat(one, 8)
	for _, x := range []struct {
		l    []string
		want bool
	}{
		{nil, true}, {[]string{}, true}, {[]string{one}, true}, {[]string{long}, true},
		{[]string{long, one}, true}, {[]string{one, long}, true}, {[]string{long, long, long}, true}, {[]string{one, long, one}, true}, {[]string{eight, eight + one}, true}, {[]string{eight + one, eight, eight + one}, true},
		{[]string{one, one}, false}, {[]string{eight, eight}, false}, {[]string{long, eight, eight}, false}, {[]string{eight, eight, long}, false}, {[]string{long, one, one, long}, false},
		{[]string{strings.Repeat(three, 5), four}, true}, {[]string{strings.Repeat(three, 5), one}, false}, {[]string{strings.Repeat(four, 3), four}, false}, {[]string{strings.Repeat(four, 3) + one, four}, true},
		{[]string{""}, false}, {[]string{long, ""}, false}, {[]string{"", long}, false}, {[]string{long, "", long}, false},
		{[]string{long + one}, false}, {[]string{long + one, long}, false}, {[]string{long, long + one}, false},
		{[]string{"\xff"}, false}, {[]string{long, "\xff"}, false}, {[]string{"\xff", long}, false}, {[]string{long, strings.Repeat(one, 8) + "\x80", long}, false},
	} {
		if got := Tight(x.l); got != x.want {
			t.Errorf("Tight(%q): %v", x.l, got)
		}
	}
}

func TestTightOfTextsSideBySide(t *testing.T) { // P15.1
	some := someTexts()
	for _, a := range some {
		for _, b := range some {
			l := []string{a, b}
			if got := Tight(l); got != speltTight(l) {
				t.Fatalf("Tight(%.50q): %v", l, got)
			}
		}
	}
	r := rand.New(rand.NewSource(15))
	held := 0
	for range 50000 {
		var l []string
		for range r.Intn(6) {
			s := drawnChunk(r)
			if len(s) < 8 && r.Intn(3) > 0 {
				s = strings.Repeat(four, 4)
			}
			l = append(l, s)
		}
		if r.Intn(10) == 0 && len(l) > 0 {
			l[r.Intn(len(l))] = some[r.Intn(len(some))]
		}
		want := speltTight(l)
		if got := Tight(l); got != want {
			t.Fatalf("Tight(%q): %v", l, got)
		}
		if want && len(l) > 2 {
			held++
		}
	}
	if held < 1000 {
		t.Errorf("only %d drawn lists were tight", held)
	}
}

func TestCutOfTextsThatAreKnown(t *testing.T) { // P15.1
	long := strings.Repeat(one, 16)
	wantPieces(t, "of nothing", Cut(""), nil)
	wantPieces(t, "of a letter", Cut(one), []string{one})
	wantPieces(t, "of 16 letters", Cut(long), []string{long})
	wantPieces(t, "of 17 letters", Cut(long+"b"), []string{long, "b"})
	wantPieces(t, "of 32 letters", Cut(long+long), []string{long, long})
	wantPieces(t, "of 33 letters", Cut(long+long+"b"), []string{long, long, "b"})
	// A rune that stands over the place where 16 bytes end goes to the next piece as a whole.
	for n := 13; n <= 16; n++ {
		s := strings.Repeat(one, n)
		wantPieces(t, "of letters and a rune of 4 bytes", Cut(s+four+"b"), []string{s, four + "b"})
	}
	wantPieces(t, "of 12 letters and runes of 4 bytes", Cut(strings.Repeat(one, 12)+four+four), []string{strings.Repeat(one, 12) + four, four})
	wantPieces(t, "of runes of 3 bytes", Cut(strings.Repeat(three, 11)), []string{strings.Repeat(three, 5), strings.Repeat(three, 5), three})
	wantPieces(t, "of runes of 2 bytes", Cut(strings.Repeat(two, 9)), []string{strings.Repeat(two, 8), two})
	wantPieces(t, "of runes of 4 bytes", Cut(strings.Repeat(four, 9)), []string{strings.Repeat(four, 4), strings.Repeat(four, 4), four})
}

func TestCutOfWhatIsNotValid(t *testing.T) { // P15.1
	long := strings.Repeat(one, 16)
	for _, s := range []string{"\xff", "\x80", "a\x80", long + "\xff", "\xff" + long, long + long + "\xe2\x82", strings.Repeat(one, 14) + "\xed\xa0\x80" + long, "\xc0\x80", "\xf4\x90\x80\x80", strings.Repeat("\x80", 40), strings.Repeat(one, 4095) + "\xc3"} {
		wantPieces(t, "of what is not valid", Cut(s), nil)
	}
}

func TestCutIsAsTheChapterSpellsIt(t *testing.T) { // P15.1
	for _, s := range someTexts() {
		wantPieces(t, "of some text", Cut(s), speltCut(s))
	}
	eachOfSizes(19, func(s string) {
		wantPieces(t, "of sizes", Cut(s), speltCut(s))
	})
	r := rand.New(rand.NewSource(151))
	for range 20000 {
		s := drawn(r, r.Intn(200))
		wantPieces(t, "of a drawn text", Cut(s), speltCut(s))
	}
}

func TestHalfOfTextsThatAreKnown(t *testing.T) { // P15.2
	wantHalf(t, "", "", "")
	wantHalf(t, "a", "a", "")
	wantHalf(t, "ab", "a", "b")
	wantHalf(t, "abc", "ab", "c")
	wantHalf(t, "abcd", "ab", "cd")
	wantHalf(t, two, "", two)
	wantHalf(t, three, "", three)
	wantHalf(t, four, "", four)
	wantHalf(t, two+"a", two, "a")
	wantHalf(t, "a"+two, "a", two)
	wantHalf(t, "ab"+three, "ab", three)
	wantHalf(t, three+"ab", three, "ab")
	wantHalf(t, three+"abc", three, "abc")
	wantHalf(t, "a"+three+"b", "a", three+"b")
	wantHalf(t, four+four, four, four)
	wantHalf(t, four+"abcd", four, "abcd")
	wantHalf(t, four+"abcde", four+"a", "bcde")
	// Of what is not valid too: its edges are where a byte stands that does not go on.
	wantHalf(t, "\x80", "\x80", "")
	wantHalf(t, "\x80\x80", "", "\x80\x80")
	wantHalf(t, "\xff\xff", "\xff", "\xff")
	wantHalf(t, "a\x80\x80b", "", "a\x80\x80b")
	wantHalf(t, strings.Repeat(one, 4095), strings.Repeat(one, 2048), strings.Repeat(one, 2047))
}

func TestHalfIsAsTheChapterSpellsIt(t *testing.T) { // P15.2
	for _, s := range someTexts() {
		l := speltHalf(s)
		wantHalf(t, s, l[0], l[1])
	}
	eachOfSizes(16, func(s string) {
		l := speltHalf(s)
		wantHalf(t, s, l[0], l[1])
	})
	r := rand.New(rand.NewSource(152))
	for range 50000 {
		b := make([]byte, r.Intn(40))
		r.Read(b)
		s := string(b)
		l := speltHalf(s)
		wantHalf(t, s, l[0], l[1])
	}
}

func TestJoinOfChunksThatAreKnown(t *testing.T) { // P15.2
	long, eight := strings.Repeat(one, 16), strings.Repeat(one, 8)
	wantPieces(t, "of letters", Join("a", "b"), []string{"ab"})
	wantPieces(t, "of 16 bytes", Join(eight, "bbbbbbbb"), []string{eight + "bbbbbbbb"})
	wantPieces(t, "of 15 and 1", Join(strings.Repeat(one, 15), "b"), []string{strings.Repeat(one, 15) + "b"})
	wantPieces(t, "of 16 and 1", Join(long, "b"), []string{eight + one, strings.Repeat(one, 7) + "b"})
	wantPieces(t, "of 1 and 16", Join("b", long), []string{"b" + eight, eight})
	wantPieces(t, "of 8 and 9", Join(eight, "bbbbbbbbb"), []string{eight + "b", "bbbbbbbb"})
	wantPieces(t, "of 16 and 16", Join(long, strings.Repeat("b", 16)), []string{long, strings.Repeat("b", 16)})
	wantPieces(t, "of runes of 4 bytes", Join(strings.Repeat(four, 4), four), []string{strings.Repeat(four, 2), strings.Repeat(four, 3)})
	wantPieces(t, "of a rune at the half", Join(eight+four, "abcdef"), []string{eight, four + "abcdef"})
}

func TestJoinWhereTheHalvesAreNoChunks(t *testing.T) { // P15.2
	letters := func(n int) string { return strings.Repeat(one, n) }
	// The half lies within a rune that begins so far ahead of it that 17 bytes are left.
	for _, x := range [][2]string{
		{letters(13) + three, letters(14)},
		{letters(12) + four, letters(13)},
		{letters(11) + four, letters(13)},
		{letters(11) + four + one, letters(12)},
		{letters(11) + four, three + letters(10)},
	} {
		wantPieces(t, "of halves that are too long", Join(x[0], x[1]), []string{x[0], x[1]})
	}
	// Here 16 are left, so that both are chunks.
	wantPieces(t, "of 14 and 16", Join(letters(14)+two, letters(14)), []string{letters(14), two + letters(14)})
	wantPieces(t, "of 12 and 16", Join(letters(12)+four, letters(12)), []string{letters(12), four + letters(12)})
	wantPieces(t, "of 11 and 16", Join(letters(11), four+letters(12)), []string{letters(11), four + letters(12)})
}

func TestJoinOfOthers(t *testing.T) { // P15.2
	long := strings.Repeat(one, 16)
	for _, s := range []string{"", long + one, "\xff", "\x80", "a\xe2\x82", "\xed\xa0\x80", strings.Repeat(one, 40)} {
		for _, other := range []string{"b", long, s} {
			wantPieces(t, "of one that is no chunk", Join(s, other), nil)
			wantPieces(t, "of one that is no chunk", Join(other, s), nil)
		}
	}
	// What is a rune together only is no chunk in either part.
	wantPieces(t, "of a rune in parts", Join("\xe2\x82", "\xac"), nil)
}

func TestJoinIsAsTheChapterSpellsIt(t *testing.T) { // P15.2
	some := someTexts()
	for _, a := range some {
		for _, b := range some {
			wantPieces(t, "of some texts", Join(a, b), speltJoin(a, b))
		}
	}
	r := rand.New(rand.NewSource(153))
	parts := map[string]int{}
	for range 300000 {
		a, b := drawnChunk(r), drawnChunk(r)
		want := speltJoin(a, b)
		wantPieces(t, "of drawn chunks", Join(a, b), want)
		switch {
		case len(want) == 1:
			parts["one"]++
		case want[0] == a && speltHalf(a + b)[0] != a:
			parts["left"]++
		default:
			parts["halves"]++
		}
	}
	for _, k := range []string{"one", "left", "halves"} {
		if parts[k] < 100 {
			t.Errorf("of %s only %d were drawn", k, parts[k])
		}
	}
}

func TestWhatIsCutIsTightAndTheText(t *testing.T) { // P15.3
	hold := func(s string) {
		t.Helper()
		l := Cut(s)
		if !Tight(l) || !speltTight(l) || strings.Join(l, "") != s {
			t.Fatalf("Cut(%q): %q", s, l)
		}
	}
	eachOfSizes(18, hold)
	r := rand.New(rand.NewSource(154))
	for range 5000 {
		hold(drawn(r, r.Intn(4096)))
	}
}

func TestWhatIsJoinedIsBoth(t *testing.T) { // P15.3
	r := rand.New(rand.NewSource(155))
	for range 200000 {
		a, b := drawnChunk(r), drawnChunk(r)
		l := Join(a, b)
		if !Tight(l) || !speltTight(l) || strings.Join(l, "") != a+b {
			t.Fatalf("Join(%q, %q): %q", a, b, l)
		}
	}
}

func TestEveryCallTellsTheSameAgain(t *testing.T) { // P1, R3, R4
	for _, s := range someTexts() {
		first := Cut(s)
		kept := slices.Clone(first)
		again := Cut(strings.Clone(s))
		wantPieces(t, "once more", again, kept)
		// What a caller does to an answer, its spare room too, is of no weight for the next one.
		for i := range first {
			first[i] = "x"
		}
		_ = append(first, "y", "z")
		wantPieces(t, "behind a change of an answer", again, kept)
		wantPieces(t, "behind a change of an answer", Cut(s), kept)
		joined := Join(s, "b")
		for i := range joined {
			joined[i] = "x"
		}
		wantPieces(t, "behind a change of an answer", Join(s, "b"), speltJoin(s, "b"))
	}
	l := []string{strings.Repeat(one, 16), one, "beyond"}
	if !Tight(l[:2]) || !slices.Equal(l, []string{strings.Repeat(one, 16), one, "beyond"}) {
		t.Errorf("Tight changed what was handed in: %q", l)
	}
}
