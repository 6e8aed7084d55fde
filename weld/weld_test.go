package weld

import (
	"math"
	"math/bits"
	"math/rand"
	"slices"
	"strings"
	"testing"
	"time"
	"unicode/utf8"

	"stylus/knot"
)

// Runes of two to four bytes.
const (
	two   = "\u00e9"
	three = "\u20ac"
	four  = "\U0001f600"
)

// drawnText is a text of so many drawn runes of all sizes, line ends among them.
func drawnText(r *rand.Rand, runes int) string {
	some := []string{"a", "b", "\n", "\x00", "\u007f", "\ufffd", two, three, four}
	var s strings.Builder
	for range runes {
		s.WriteString(some[r.Intn(len(some))])
	}
	return s.String()
}

// someTexts are valid texts, those without bytes and with few chunks among them.
func someTexts() []string {
	l := []string{"", "a", "ab", "\n", "\x00", two, three, four, "a\n" + three + four}
	for _, n := range []int{7, 8, 9, 15, 16, 17, 31, 32, 33, 48, 127, 128, 129, 130, 145, 1024, 1041, 4096} {
		l = append(l, strings.Repeat("x", n))
	}
	for _, n := range []int{5, 6, 33, 100} {
		l = append(l, strings.Repeat(three, n), strings.Repeat(four, n), "a"+strings.Repeat(four, n), strings.Repeat(two+four, n), strings.Repeat("abc\n", n))
	}
	r := rand.New(rand.NewSource(17))
	for _, n := range []int{10, 20, 50, 200} {
		l = append(l, drawnText(r, n), drawnText(r, n))
	}
	return l
}

// noTexts are texts that are not valid.
func noTexts() []string {
	return []string{"\xff", "\x80", "a\xe2\x82", "\xed\xa0\x80", "\xc0\x80", "\xf4\x90\x80\x80", strings.Repeat("a", 16) + "\xff", strings.Repeat("a", 4095) + "\xc3", "\xa9" + strings.Repeat("a", 40)}
}

// leaves are leaves of those chunks.
func leaves(chunks ...string) []*knot.Knot {
	var l []*knot.Knot
	for _, s := range chunks {
		l = append(l, knot.Leaf(s))
	}
	return l
}

// speltTight is chapter 15's rule of what is tight.
func speltTight(chunks []string) bool {
	for i, s := range chunks {
		if s == "" || len(s) > 16 || !utf8.ValidString(s) {
			return false
		}
		if i > 0 && len(chunks[i-1])+len(s) <= 16 {
			return false
		}
	}
	return true
}

// speltBack is chapter 1's rule of the greatest edge not above a place.
func speltBack(s string, at int) int {
	if at >= len(s) {
		return len(s)
	}
	for at > 0 && !utf8.RuneStart(s[at]) {
		at--
	}
	return max(0, at)
}

// wantTree holds that k is a tree as the chapter asks for, with that text.
func wantTree(t *testing.T, what string, k *knot.Knot, text string) {
	t.Helper()
	if got := k.Text(); got != text {
		t.Fatalf("%s: text %q, want %q", what, got, text)
	}
	if !k.Right() {
		t.Fatalf("%s: not right", what)
	}
	if chunks := k.Chunks(); !speltTight(chunks) {
		t.Fatalf("%s: not tight: %q", what, chunks)
	}
	if !Tight(k) {
		t.Fatalf("%s: Tight is false of what is tight: %q", what, k.Chunks())
	}
	if (k == nil) != (text == "") {
		t.Fatalf("%s: nil %v of the text %q", what, k == nil, text)
	}
	if n := bits.Len(uint(len(text))); k.Height() > n {
		t.Fatalf("%s: height %d of %d bytes", what, k.Height(), len(text))
	}
}

// wantSplit holds both trees of a Split against the text's parts.
func wantSplit(t *testing.T, k *knot.Knot, text string, at int) (*knot.Knot, *knot.Knot) {
	t.Helper()
	n := speltBack(text, at)
	a, b := Split(k, at)
	wantTree(t, "the left of a split", a, text[:n])
	wantTree(t, "the right of a split", b, text[n:])
	return a, b
}

// places are all places of a text, and some beyond its ends.
func places(text string) []int {
	l := []int{math.MinInt, math.MinInt + 1, -4097, -17, -1, len(text) + 1, len(text) + 17, math.MaxInt - 1, math.MaxInt}
	for at := range len(text) + 1 {
		l = append(l, at)
	}
	return l
}

// inTime fails if f takes far longer than it may.
func inTime(t *testing.T, what string, f func()) {
	t.Helper()
	done := make(chan struct{})
	go func() {
		defer close(done)
		f()
	}()
	select {
	case <-done:
	case <-time.After(20 * time.Second):
		t.Fatalf("%s does not end", what)
	}
}

func TestOf(t *testing.T) { // P17.1
	for _, s := range someTexts() {
		wantTree(t, "Of", Of(s), s)
	}
	for n := range 700 {
		s := strings.Repeat("abcdefghijklm\n", 50)[:n]
		wantTree(t, "Of", Of(s), s)
	}
	for _, s := range noTexts() {
		if Of(s) != nil {
			t.Errorf("Of(%q) is a tree", s)
		}
	}
}

func TestTightOfNilAndOfZeroValues(t *testing.T) { // P17.1, R5
	if !Tight(nil) {
		t.Error("nil is not tight")
	}
	if Tight(&knot.Knot{}) || Tight(new(knot.Knot)) {
		t.Error("what no call made is tight")
	}
}

func TestTightAtItsEnds(t *testing.T) { // P17.1
	for a := 1; a <= 16; a++ {
		if !Tight(knot.Leaf(strings.Repeat("x", a))) {
			t.Errorf("a leaf of %d bytes is not tight", a)
		}
		for b := 1; b <= 16; b++ {
			k := knot.Join(leaves(strings.Repeat("x", a), strings.Repeat("y", b))...)
			if got, want := Tight(k), a+b > 16; got != want {
				t.Errorf("chunks of %d and %d bytes: %v, want %v", a, b, got, want)
			}
		}
	}
	// Runes are counted by their bytes.
	if Tight(knot.Join(leaves(strings.Repeat(four, 2), strings.Repeat(four, 2))...)) || !Tight(knot.Join(leaves(strings.Repeat(four, 2), strings.Repeat(three, 3))...)) {
		t.Error("runes are counted otherwise than by their bytes")
	}
}

func TestTightFindsTheOneSeamThatIsNot(t *testing.T) { // P17.1
	for _, n := range []int{2, 3, 8, 9, 16, 64, 73, 100} {
		for at := range n - 1 {
			// Two in a row have at most 16 bytes together, wherever in the tree their seam is.
			chunks := slices.Repeat([]string{strings.Repeat("z", 16)}, n)
			chunks[at], chunks[at+1] = "1234567", "123456789"
			if Tight(knot.Up(leaves(chunks...))) {
				t.Fatalf("%d chunks, with a seam at %d that is not tight, are", n, at)
			}
			chunks[at] = "12345678"
			if !Tight(knot.Up(leaves(chunks...))) {
				t.Fatalf("%d chunks, with a seam of 17 bytes at %d, are not tight", n, at)
			}
		}
	}
}

func TestTightIsAsTheChapterSpellsIt(t *testing.T) { // P17.1
	r := rand.New(rand.NewSource(171))
	told := [2]int{}
	for range 4000 {
		var chunks []string
		for range 1 + r.Intn(20) {
			chunks = append(chunks, strings.Repeat("c", 16-r.Intn(10)))
		}
		got := Tight(knot.Up(leaves(chunks...)))
		if got != speltTight(chunks) {
			t.Fatalf("%q: %v", chunks, got)
		}
		if got {
			told[1]++
		} else {
			told[0]++
		}
	}
	if min(told[0], told[1]) < 100 {
		t.Errorf("not often enough each: %v", told)
	}
}

func TestTheExample(t *testing.T) { // P17.2
	a, b := Split(Of("ab"), 1)
	wantTree(t, "left", a, "a")
	wantTree(t, "right", b, "b")
}

func TestConcat(t *testing.T) { // P17.2
	texts := someTexts()
	for _, a := range texts {
		for _, b := range texts {
			wantTree(t, "Concat", Concat(Of(a), Of(b)), a+b)
		}
	}
}

func TestConcatAtTheSeam(t *testing.T) { // P17.2
	// Chunks of all sizes stand at the seam, one alone or with whole ones behind them, and the fewest bytes that tight ones may have.
	for _, sides := range []int{0, 1, 7, 8, 9, 64, 71} {
		for a := 1; a <= 16; a++ {
			for b := 1; b <= 16; b++ {
				left := slices.Repeat([]string{strings.Repeat("l", 16)}, sides)
				right := slices.Clone(left)
				if sides > 0 {
					left[sides-1], right[0] = strings.Repeat("l", 17-a), strings.Repeat("r", 17-b)
				}
				left, right = append(left, strings.Repeat("a", a)), append([]string{strings.Repeat("b", b)}, right...)
				x, y := knot.Up(leaves(left...)), knot.Up(leaves(right...))
				wantTree(t, "Concat at a seam", Concat(x, y), strings.Join(left, "")+strings.Join(right, ""))
			}
		}
	}
}

func TestConcatOfNone(t *testing.T) { // P17.2
	for _, s := range someTexts() {
		wantTree(t, "with nil behind it", Concat(Of(s), nil), s)
		wantTree(t, "with nil ahead of it", Concat(nil, Of(s)), s)
	}
	wantTree(t, "nil twice", Concat(nil, nil), "")
}

func TestConcatOfATreeWithItself(t *testing.T) { // P17.2
	for _, s := range someTexts() {
		k := Of(s)
		wantTree(t, "twice", Concat(k, k), s+s)
		wantTree(t, "thrice", Concat(Concat(k, k), k), s+s+s)
	}
}

func TestConcatOneByOne(t *testing.T) { // P17.2
	for _, s := range []string{"a", two, four, "abcdefghi", strings.Repeat("x", 16), strings.Repeat("y", 17), strings.Repeat(three, 40)} {
		var behind, ahead *knot.Knot
		for n := range 400 {
			behind, ahead = Concat(behind, Of(s)), Concat(Of(s), ahead)
			if n < 40 || n%40 == 39 {
				wantTree(t, "one behind the other", behind, strings.Repeat(s, n+1))
				wantTree(t, "one ahead of the other", ahead, strings.Repeat(s, n+1))
			}
		}
	}
}

func TestSplit(t *testing.T) { // P17.2, P17.3
	for _, s := range someTexts() {
		k := Of(s)
		for _, at := range places(s) {
			a, b := wantSplit(t, k, s, at)
			// All that a tree of many bytes is put together of would take long to look at at each place.
			if c := Concat(a, b); len(s) < 500 || at%16 == 0 {
				wantTree(t, "put together again", c, s)
			}
		}
	}
}

func TestSplitBeyondTheEnds(t *testing.T) { // P17.2
	for _, s := range someTexts() {
		for _, at := range []int{0, -1, -16, math.MinInt} {
			a, b := Split(Of(s), at)
			wantTree(t, "ahead of the beginning", a, "")
			wantTree(t, "behind the beginning", b, s)
		}
		for _, at := range []int{0, 1, 16, math.MaxInt - len(s)} {
			a, b := Split(Of(s), len(s)+at)
			wantTree(t, "ahead of the end", a, s)
			wantTree(t, "behind the end", b, "")
		}
	}
}

func TestSplitWithinARune(t *testing.T) { // P17.2
	for _, c := range []string{two, three, four} {
		for ahead := range 40 {
			head := strings.Repeat("x", ahead)
			k := Of(head + c + head)
			for in := range len(c) {
				a, b := Split(k, ahead+in)
				wantTree(t, "ahead of the rune", a, head)
				wantTree(t, "from the rune on", b, c+head)
			}
		}
	}
}

func TestManySplitsAndConcats(t *testing.T) { // P17.2, P17.3
	r := rand.New(rand.NewSource(172))
	for range 30 {
		texts := []string{"", drawnText(r, 1), drawnText(r, 30), strings.Repeat("x", 9*r.Intn(60))}
		var trees []*knot.Knot
		for _, s := range texts {
			trees = append(trees, Of(s))
		}
		for range 150 {
			i, j := r.Intn(len(texts)), r.Intn(len(texts))
			if len(texts[i])+len(texts[j]) > 4096 {
				texts[i], trees[i] = "", nil
			}
			at := r.Intn(len(texts[i])+5) - 2
			a, b := wantSplit(t, trees[i], texts[i], at)
			n := len(a.Text())
			wantTree(t, "put together again", Concat(a, b), texts[i])
			// A text stands within another one now, whose parts no Of made.
			text := texts[i][:n] + texts[j] + texts[i][n:]
			tree := Concat(Concat(a, trees[j]), b)
			wantTree(t, "one within another", tree, text)
			wantTree(t, "one within another, from the right", Concat(a, Concat(trees[j], b)), text)
			wantTree(t, "a copy of the one", trees[j], texts[j])
			trees[i], texts[i] = tree, text
		}
	}
}

func TestTreesOfTheFewestBytesAndTheFewestKnots(t *testing.T) { // P17.2, P17.3
	// Chunks of 1 and 16 bytes by turns are as tight as can be; two knots under each make a tree as high as can be.
	var l []*knot.Knot
	for i := range 64 {
		l = append(l, knot.Leaf([]string{strings.Repeat("x", 16), "y"}[i%2]))
	}
	for len(l) > 1 {
		var up []*knot.Knot
		for i := 0; i < len(l); i += 2 {
			up = append(up, knot.Join(l[i], l[i+1]))
		}
		l = up
	}
	k, text := l[0], l[0].Text()
	wantTree(t, "a high tree", k, text)
	for _, at := range places(text) {
		a, b := wantSplit(t, k, text, at)
		wantTree(t, "put together again", Concat(a, b), text)
		wantTree(t, "turned", Concat(b, a), b.Text()+a.Text())
	}
	for _, s := range someTexts() {
		wantTree(t, "high and of", Concat(k, Of(s)), text+s)
		wantTree(t, "of and high", Concat(Of(s), k), s+text)
	}
}

func TestWhatIsHandedInIsLeft(t *testing.T) { // R3
	a, b := strings.Repeat("abcdefghi"+three, 60), strings.Repeat(two+"\n", 99)
	x, y := Of(a), Of(b)
	wasX, wasY := x.Chunks(), y.Chunks()
	for at := range len(a) {
		left, right := Split(x, at)
		Concat(left, y)
		Concat(y, right)
		Concat(right, left)
		Tight(x)
	}
	if !slices.Equal(x.Chunks(), wasX) || !slices.Equal(y.Chunks(), wasY) {
		t.Error("a tree was changed")
	}
	wantTree(t, "the one", x, a)
	wantTree(t, "the other", y, b)
}

// ofHeight is a tree of that height over a leaf, two under each.
func ofHeight(leaf string, height int) *knot.Knot {
	k := knot.Leaf(leaf)
	for range height {
		k = knot.Join(k, k)
	}
	return k
}

func TestAKnotThatStandsInATreeVeryOften(t *testing.T) { // P17.1, P17.2, R1
	inTime(t, "a tree of the same knots", func() {
		for _, height := range []int{10, 56, 61, 500, 2000} {
			for leaf, tight := range map[string]bool{"123456789": true, "12345678": false} {
				k := ofHeight(leaf, height)
				if Tight(k) != tight {
					t.Errorf("Tight of %q, %d high: %v", leaf, height, !tight)
				}
				for _, at := range []int{math.MinInt, -1, 0, 1, 100, 1 << 40, math.MaxInt} {
					a, b := Split(k, at)
					for _, x := range []*knot.Knot{a, b, Concat(a, b), Concat(k, k), Concat(knot.Leaf("c"), k), Concat(k, knot.Leaf("c"))} {
						if !x.Right() || tight && !Tight(x) {
							t.Errorf("of %q, %d high: right %v, tight %v", leaf, height, x.Right(), Tight(x))
						}
					}
					if c := Concat(a, b).Count(); c != k.Count() && tight {
						t.Errorf("of %q, %d high, split at %d: %v, want %v", leaf, height, at, c, k.Count())
					}
				}
			}
		}
	})
}

func TestAHugeTreeIsCutWhereItIsAsked(t *testing.T) { // P17.2
	k := ofHeight("123456789", 55)
	for _, at := range []int{0, 1, 8, 9, 10, 1 << 20, 1<<50 + 1, 9<<55 - 1, 9 << 55} {
		a, b := Split(k, at)
		if a.Count().Bytes != at || b.Count().Bytes != 9<<55-at {
			t.Errorf("at %d: %d and %d bytes", at, a.Count().Bytes, b.Count().Bytes)
		}
	}
}

func TestTreesThatAreNotTight(t *testing.T) { // P17.2, R1
	// What is told of them is free, but nothing panics.
	r := rand.New(rand.NewSource(173))
	for _, n := range []int{1, 2, 3, 8, 9, 17, 80, 600} {
		var chunks []string
		for range n {
			chunks = append(chunks, strings.Repeat("x", 1+r.Intn(4)))
		}
		k := knot.Up(leaves(chunks...))
		for _, at := range places(k.Text()) {
			a, b := Split(k, at)
			Concat(a, b)
			Concat(b, k)
			Concat(k, Of("abc"))
		}
	}
}

func TestKnotsThatNoCallMade(t *testing.T) { // R1, R5
	for _, k := range []*knot.Knot{nil, {}} {
		for _, at := range []int{math.MinInt, -1, 0, 1, math.MaxInt} {
			if a, b := Split(k, at); a != nil || b != nil {
				t.Error("a split of nothing is something")
			}
		}
		for _, x := range []*knot.Knot{nil, {}, Of("a"), Of(strings.Repeat("a", 300))} {
			Concat(k, x)
			Concat(x, k)
		}
	}
	if Concat(&knot.Knot{}, &knot.Knot{}) != nil || Concat(nil, &knot.Knot{}) != nil || Concat(&knot.Knot{}, nil) != nil {
		t.Error("nothing, put together, is something")
	}
}

func TestAKnotThatIsLaidOverAnother(t *testing.T) { // R1
	inTime(t, "a knot over another", func() {
		for _, height := range []int{0, 1, 3} {
			for up := 1; up <= 3; up++ {
				others := []*knot.Knot{{}, knot.Leaf("\u20ac"), ofHeight("123456789", height+1), ofHeight("b", height+2), ofHeight("c", max(0, height-1)), nil}
				for _, other := range others {
					k := ofHeight("12345678", height)
					whole := k
					for range up {
						whole = knot.Join(whole, ofHeight("1234567", whole.Height()), whole)
					}
					// nil stands for the whole itself: the knot stands below itself then.
					if other == nil {
						other = whole
					}
					*k = *other
					for _, x := range []*knot.Knot{k, whole} {
						Tight(x)
						for at := -1; at < 300; at++ {
							a, b := Split(x, at)
							Concat(a, b)
						}
						for _, y := range append(others, k, whole, Of("x"), Of(strings.Repeat("y", 2000))) {
							Tight(Concat(x, y))
							Tight(Concat(y, x))
						}
					}
				}
			}
		}
	})
}
