package walk

import (
	"iter"
	"math"
	"math/rand"
	"slices"
	"strings"
	"testing"
	"time"
	"unicode/utf8"

	"stylus/api"
	"stylus/knot"
	"stylus/rope"
	"stylus/seek"
)

// Runes of two to four bytes.
const (
	two   = "\u00e9"
	three = "\u20ac"
	four  = "\U0001f600"
)

// letters is a text of so many letters, a line end behind each fifteen.
func letters(n int) string {
	return strings.Repeat("abcdefghijklmno\n", n/16+1)[:n]
}

// drawn is a text of so many drawn runes of all sizes, line ends among them.
func drawn(r *rand.Rand, runes int) string {
	// Runes beside U+0A, with whose bytes a line end must not be taken for.
	some := []string{"a", "b", "\n", "\r", "\x00", "\u010a", "\u2028", "\ufffd", two, three, four}
	var s strings.Builder
	for range runes {
		s.WriteString(some[r.Intn(len(some))])
	}
	return s.String()
}

// someTexts are texts that a rope may have, up to the longest ones.
func someTexts() []string {
	l := []string{
		"", "a", "ab", "\n", "\n\n", "a\n", "\na", "a\nb", "a\n\nb\n", "\x00", two, three, four, "\ufffd", "a\n" + three + four, three + "\n" + four + "\n", "\r\n\u010a\u2028\u0085\x0b\x0c",
		letters(16) + letters(15), strings.Repeat("a", 15) + "\n", strings.Repeat("a", 16) + "\n", strings.Repeat("\n", 16), strings.Repeat("\n", 17), strings.Repeat("a", 300), strings.Repeat("a\n", 150),
		strings.Repeat(four, 1024), strings.Repeat(three, 1365) + "\n", strings.Repeat("\n", 4096), strings.Repeat("a", 4095) + "\n", "\n" + strings.Repeat(two, 2047) + "b", strings.Repeat(three+"\n", 1024),
	}
	for _, n := range []int{15, 16, 17, 32, 33, 127, 128, 129, 145, 1041, 4095, 4096} {
		l = append(l, letters(n))
	}
	r := rand.New(rand.NewSource(20))
	for _, n := range []int{5, 12, 40, 300, 900} {
		l = append(l, drawn(r, n))
	}
	return l
}

// beyond are places that a text of n bytes has not.
func beyond(n int) []int {
	return []int{math.MinInt, math.MinInt + 1, -1 << 32, -4097, -2, -1, n + 1, n + 2, n + 17, 1 << 32, math.MaxInt - 1, math.MaxInt}
}

// of is the rope of a text that one may have.
func of(t *testing.T, s string) *rope.Rope {
	t.Helper()
	r, e := rope.Of(s)
	if e != api.OK {
		t.Fatalf("Of(%.50q): %s", s, api.Text(e))
	}
	return r
}

// told is one thing that an iterator tells.
type told[V any] struct {
	n int
	v V
}

// all is all that an iterator tells.
func all[V any](it iter.Seq2[int, V]) []told[V] {
	var l []told[V]
	for n, v := range it {
		l = append(l, told[V]{n, v})
	}
	return l
}

// first is the first things that an iterator tells, which is left behind them; it must not go on then.
func first[V any](t *testing.T, it iter.Seq2[int, V], many int) []told[V] {
	t.Helper()
	var l []told[V]
	left := false
	it(func(n int, v V) bool {
		if left {
			t.Fatal("an iterator that was left goes on")
		}
		l = append(l, told[V]{n, v})
		left = len(l) == many
		return !left
	})
	return l
}

// runesOf is each rune of a text, and where it begins.
func runesOf(s string) []told[rune] {
	var l []told[rune]
	for at, c := range s {
		l = append(l, told[rune]{at, c})
	}
	return l
}

// onward is what Runes tells of a text, by the chapter's rule.
func onward(runes []told[rune], from int) []told[rune] {
	var l []told[rune]
	for _, x := range runes {
		if x.n >= from {
			l = append(l, x)
		}
	}
	return l
}

// turned is what Back tells of a text, by the chapter's rule.
func turned(runes []told[rune], from int) []told[rune] {
	var l []told[rune]
	for _, x := range runes {
		if x.n+utf8.RuneLen(x.v) <= from {
			l = append(l, x)
		}
	}
	slices.Reverse(l)
	return l
}

// rowsOf is what Rows tells of a text, by the chapter's rule.
func rowsOf(s string) []told[string] {
	var l []told[string]
	for n, row := range strings.Split(s, "\n") {
		l = append(l, told[string]{n, row})
	}
	return l
}

// chunksOf is what Chunks tells of a rope, by the chapter's rule.
func chunksOf(r *rope.Rope) []told[string] {
	var l []told[string]
	at := 0
	for _, s := range r.Root().Chunks() {
		l = append(l, told[string]{at, s})
		at += len(s)
	}
	return l
}

// want holds what an iterator tells, twice, against what it is to tell.
func want[V comparable](t *testing.T, what string, s string, it iter.Seq2[int, V], l []told[V]) {
	t.Helper()
	for range 2 {
		if got := all(it); !slices.Equal(got, l) {
			t.Fatalf("%s of %.50q: %v, want %v", what, s, got, l)
		}
	}
}

// wantFrom holds Runes and Back of a place against the chapter's rules.
func wantFrom(t *testing.T, r *rope.Rope, s string, runes []told[rune], from int) {
	t.Helper()
	want(t, "Runes", s, Runes(r, from), onward(runes, from))
	want(t, "Back", s, Back(r, from), turned(runes, from))
}

// wantAt holds all that a rope is asked for, the runes from some places on, against the chapter's rules.
func wantAt(t *testing.T, r *rope.Rope, s string, places []int) {
	t.Helper()
	want(t, "Chunks", s, Chunks(r), chunksOf(r))
	want(t, "Rows", s, Rows(r), rowsOf(s))
	runes := runesOf(s)
	for _, from := range places {
		wantFrom(t, r, s, runes, from)
	}
}

// places are all places of a short text, and some of a long one, at its ends and around where chunks may meet.
func places(s string) []int {
	var l []int
	for at := range len(s) + 1 {
		if at < 70 || at > len(s)-20 || at%61 == 0 {
			l = append(l, at)
		}
	}
	return append(l, beyond(len(s))...)
}

func TestTheExample(t *testing.T) { // P20.1
	want(t, "Rows", "a\n", Rows(of(t, "a\n")), []told[string]{{0, "a"}, {1, ""}})
}

func TestAllOfSomeTexts(t *testing.T) { // P20.1, P20.2
	for _, s := range someTexts() {
		wantAt(t, of(t, s), s, places(s))
	}
}

func TestAllOfShortTexts(t *testing.T) { // P20.1, P20.2
	some := []string{"a", "\n", two, three, four}
	l := []string{""}
	for range 5 {
		var next []string
		for _, s := range l {
			wantAt(t, of(t, s), s, places(s))
			for _, c := range some {
				next = append(next, s+c)
			}
		}
		l = next
	}
}

func TestChunksOfSomeTexts(t *testing.T) { // P20.1
	for _, x := range []struct {
		s string
		l []told[string]
	}{
		{"", nil},
		{"a", []told[string]{{0, "a"}}},
		{letters(16), []told[string]{{0, letters(16)}}},
		{letters(17), []told[string]{{0, letters(16)}, {16, "a"}}},
		{letters(15) + two, []told[string]{{0, letters(15)}, {15, two}}},
	} {
		want(t, "Chunks", x.s, Chunks(of(t, x.s)), x.l)
	}
}

func TestRowsOfSomeTexts(t *testing.T) { // P20.1
	for _, x := range []struct {
		s string
		l []told[string]
	}{
		{"", []told[string]{{0, ""}}},
		{"a", []told[string]{{0, "a"}}},
		{"\n", []told[string]{{0, ""}, {1, ""}}},
		{"\na", []told[string]{{0, ""}, {1, "a"}}},
		{"a\n\nb", []told[string]{{0, "a"}, {1, ""}, {2, "b"}}},
		{three + "\r\n\u010a\n", []told[string]{{0, three + "\r"}, {1, "\u010a"}, {2, ""}}},
		// over the ends of chunks
		{letters(15) + "yz\n" + letters(20), []told[string]{{0, letters(15) + "yz"}, {1, letters(15)}, {2, "abcd"}}},
	} {
		want(t, "Rows", x.s, Rows(of(t, x.s)), x.l)
	}
}

func TestRunesOfSomePlaces(t *testing.T) { // P20.2
	r := of(t, "a"+three+"\n")
	a, b, c := told[rune]{0, 97}, told[rune]{1, 8364}, told[rune]{4, 10}
	for _, x := range []struct {
		from        int
		runes, back []told[rune]
	}{
		{math.MinInt, []told[rune]{a, b, c}, nil},
		{-1, []told[rune]{a, b, c}, nil},
		{0, []told[rune]{a, b, c}, nil},
		{1, []told[rune]{b, c}, []told[rune]{a}},
		// within a rune, which begins ahead of it, and ends behind it
		{2, []told[rune]{c}, []told[rune]{a}},
		{3, []told[rune]{c}, []told[rune]{a}},
		{4, []told[rune]{c}, []told[rune]{b, a}},
		{5, nil, []told[rune]{c, b, a}},
		{6, nil, []told[rune]{c, b, a}},
		{math.MaxInt, nil, []told[rune]{c, b, a}},
	} {
		want(t, "Runes", r.Text(), Runes(r, x.from), x.runes)
		want(t, "Back", r.Text(), Back(r, x.from), x.back)
	}
}

func TestRopesThatNoCallMade(t *testing.T) { // P20.1, P20.2, R1, R5
	for _, r := range []*rope.Rope{nil, {}, new(rope.Rope)} {
		wantAt(t, r, "", []int{math.MinInt, -1, 0, 1, math.MaxInt})
	}
}

func TestManyEditsAreAsOnAPlainText(t *testing.T) { // P20.1, P20.2
	draw := rand.New(rand.NewSource(201))
	for _, long := range []int{1, 3, 20, 150} {
		for range 3 {
			r, s := of(t, ""), ""
			for range 150 {
				edges := append([]int{}, len(s))
				for at := range s {
					edges = append(edges, at)
				}
				at, put := edges[draw.Intn(len(edges))], drawn(draw, draw.Intn(2*long))
				next, e := r.Insert(at, put)
				s2 := s[:at] + put + s[at:]
				if draw.Intn(3) == 0 || len(s) > 3500 {
					to := edges[draw.Intn(len(edges))]
					at, to = min(at, to), max(at, to)
					next, e = r.Delete(at, to-at)
					s2 = s[:at] + s[to:]
				}
				if e == api.OK {
					r, s = next, s2
				}
				wantAt(t, r, s, []int{-1, 0, len(s), len(s) + 1, draw.Intn(len(s) + 1), draw.Intn(len(s) + 1)})
			}
		}
	}
}

func TestOneBehindTheOtherTheyAreTheText(t *testing.T) { // P20.3
	for _, s := range someTexts() {
		r := of(t, s)
		var chunks, runes strings.Builder
		for at, c := range Chunks(r) {
			if at != chunks.Len() || len(c) < 1 || len(c) > api.MaxChunk {
				t.Fatalf("a chunk of %.50q: %d, %q", s, at, c)
			}
			chunks.WriteString(c)
		}
		for at, c := range Runes(r, 0) {
			if at != runes.Len() {
				t.Fatalf("a rune of %.50q: %d, %q", s, at, c)
			}
			runes.WriteRune(c)
		}
		back := ""
		for at, c := range Back(r, r.Len()) {
			back = string(c) + back
			if at != len(s)-len(back) {
				t.Fatalf("a rune of %.50q, backwards: %d, %q", s, at, c)
			}
		}
		if chunks.String() != s || runes.String() != s || back != s {
			t.Fatalf("%.50q: %.50q, %.50q, %.50q", s, chunks.String(), runes.String(), back)
		}
	}
}

func TestRowsAreAsSeekTellsThem(t *testing.T) { // P20.1
	for _, s := range someTexts() {
		r := of(t, s)
		n := 0
		for line, row := range Rows(r) {
			if got, e := seek.Row(r, line); line != n || got != row || e != api.OK {
				t.Fatalf("the row %d of %.50q: %d, %q, want %q, %s", n, s, line, row, got, api.Text(e))
			}
			n++
		}
		if n != seek.Lines(r) {
			t.Fatalf("the rows of %.50q: %d, want %d", s, n, seek.Lines(r))
		}
	}
}

// wantLeft leaves an iterator behind each of its first things and of its last ones, and goes over it again.
func wantLeft[V comparable](t *testing.T, s string, it iter.Seq2[int, V]) {
	t.Helper()
	l := all(it)
	for i := range l {
		if i > 20 && i < len(l)-3 {
			continue
		}
		if got := first(t, it, i+1); !slices.Equal(got, l[:i+1]) {
			t.Fatalf("the first %d of %.50q: %v, want %v", i+1, s, got, l[:i+1])
		}
	}
	want(t, "once more", s, it, l)
}

func TestIteratorsThatAreLeft(t *testing.T) { // P20.2, R3
	for _, s := range someTexts() {
		r := of(t, s)
		wantLeft(t, s, Chunks(r))
		wantLeft(t, s, Rows(r))
		for _, from := range []int{-1, 0, 1, 17, len(s) / 2, len(s) - 1, len(s), len(s) + 1} {
			wantLeft(t, s, Runes(r, from))
			wantLeft(t, s, Back(r, from))
		}
	}
}

// wantNested goes over an iterator within itself.
func wantNested[V comparable](t *testing.T, it iter.Seq2[int, V]) {
	t.Helper()
	l := all(it)
	i := 0
	for n, v := range it {
		if i >= len(l) || l[i] != (told[V]{n, v}) {
			t.Fatalf("the thing %d: %d, %v", i, n, v)
		}
		if got := all(it); !slices.Equal(got, l) {
			t.Fatalf("within the thing %d: %v, want %v", i, got, l)
		}
		i++
	}
	if i != len(l) {
		t.Fatalf("%d things, want %d", i, len(l))
	}
}

func TestIteratorsWithinThemselves(t *testing.T) { // R3
	for _, s := range []string{"", "a\nb", three + "\n" + four + "\n", letters(300), drawn(rand.New(rand.NewSource(202)), 200)} {
		r := of(t, s)
		wantNested(t, Chunks(r))
		wantNested(t, Rows(r))
		wantNested(t, Runes(r, 0))
		wantNested(t, Runes(r, 5))
		wantNested(t, Back(r, len(s)))
		wantNested(t, Back(r, len(s)-5))
	}
}

// keeps tells whether iterators that were asked for tell the same, begun or not, behind a change of what they were asked of.
func keeps[V comparable](t *testing.T, ask func(r *rope.Rope) iter.Seq2[int, V], s string, change func(r *rope.Rope)) {
	t.Helper()
	l := all(ask(of(t, s)))
	r := of(t, s)
	it := ask(r)
	change(r)
	want(t, "behind a change", s, it, l)
	r = of(t, s)
	var got []told[V]
	for n, v := range ask(r) {
		got = append(got, told[V]{n, v})
		change(r)
	}
	if !slices.Equal(got, l) {
		t.Fatalf("amid a change of %.50q: %v, want %v", s, got, l)
	}
}

func TestTheyTellWhatWasWhenTheyWereAskedFor(t *testing.T) { // R3
	for _, change := range []func(r *rope.Rope){
		func(r *rope.Rope) { *r = rope.Rope{} },
		func(r *rope.Rope) { *r = *of(t, "\nx"+four) },
		func(r *rope.Rope) { *r.Root() = *knot.Leaf("\nx") },
		func(r *rope.Rope) {
			if k := r.Root(); k.Height() > 0 {
				*k.Kids()[1] = *knot.Leaf("y\n")
			}
		},
	} {
		for _, s := range []string{"a", "a\n" + three, letters(40), letters(1000)} {
			keeps(t, Chunks, s, change)
			keeps(t, Rows, s, change)
			keeps(t, func(r *rope.Rope) iter.Seq2[int, rune] { return Runes(r, 1) }, s, change)
			keeps(t, func(r *rope.Rope) iter.Seq2[int, rune] { return Back(r, len(s)) }, s, change)
		}
	}
}

func TestTheRopeIsLeftAsItIs(t *testing.T) { // R3, R4
	for _, s := range someTexts() {
		r := of(t, s)
		root := r.Root()
		useAll(r)
		if r.Root() != root || r.Text() != s || !r.Right() {
			t.Fatalf("the rope of %.50q is another one", s)
		}
	}
}

// useAll goes over all that there is, from some places on.
func useAll(r *rope.Rope) {
	all(Chunks(r))
	all(Rows(r))
	for _, from := range append([]int{0, 1, 8, 16, 17, 100, r.Len() - 1, r.Len()}, beyond(r.Len())...) {
		all(Runes(r, from))
		all(Back(r, from))
	}
}

func TestAKnotOfARopeThatIsLaidOverAnother(t *testing.T) { // R1
	done := make(chan struct{})
	go func() {
		defer close(done)
		for _, n := range []int{1, 16, 17, 300, 4096} {
			for depth := range of(t, letters(n)).Height() + 1 {
				for _, other := range []func(root *knot.Knot) knot.Knot{
					func(*knot.Knot) knot.Knot { return knot.Knot{} },
					func(root *knot.Knot) knot.Knot { return *root },
					func(*knot.Knot) knot.Knot { return *knot.Leaf(four) },
					func(*knot.Knot) knot.Knot { return *of(t, letters(4000)).Root() },
				} {
					for _, last := range []bool{false, true} {
						r := of(t, letters(n))
						*below(r.Root(), depth, last) = other(r.Root())
						useAll(r)
					}
				}
			}
		}
	}()
	select {
	case <-done:
	case <-time.After(60 * time.Second):
		t.Fatal("it does not end")
	}
}

// below is the first or the last knot so many levels below k.
func below(k *knot.Knot, depth int, last bool) *knot.Knot {
	for range depth {
		kids := k.Kids()
		k = kids[0]
		if last {
			k = kids[len(kids)-1]
		}
	}
	return k
}
