package seek

import (
	"math"
	"math/rand"
	"strings"
	"testing"
	"time"
	"unicode/utf8"

	"stylus/api"
	"stylus/knot"
	"stylus/rope"
)

// Runes of two to four bytes.
const (
	two   = "\u00e9"
	three = "\u20ac"
	four  = "\U0001f600"
)

// letters is a text of so many letters, a line end behind each fifteen.
func letters(n int) string {
	return strings.Repeat("abcdefghijklmno\n", n/16+1)[:n]
}

// drawn is a text of so many drawn runes of all sizes, line ends among them.
func drawn(r *rand.Rand, runes int) string {
	// Runes beside U+0A, with whose bytes a line end must not be taken for.
	some := []string{"a", "b", "\n", "\r", "\x00", "\u010a", "\u2028", "\ufffd", two, three, four}
	var s strings.Builder
	for range runes {
		s.WriteString(some[r.Intn(len(some))])
	}
	return s.String()
}

// someTexts are texts that a rope may have, up to the longest ones.
func someTexts() []string {
	l := []string{
		"", "a", "ab", "\n", "\n\n", "a\n", "\na", "a\nb", "a\n\nb\n", "\x00", two, three, four, "\ufffd", "a\n" + three + four, three + "\n" + four + "\n", "\r\n\u010a\u2028\u0085\x0b\x0c",
		letters(16) + letters(15), strings.Repeat("a", 15) + "\n", strings.Repeat("a", 16) + "\n", strings.Repeat("\n", 16), strings.Repeat("\n", 17), strings.Repeat("a", 300), strings.Repeat("a\n", 150),
		strings.Repeat(four, 1024), strings.Repeat(three, 1365) + "\n", strings.Repeat("\n", 4096), strings.Repeat("a", 4095) + "\n", "\n" + strings.Repeat(two, 2047) + "b", strings.Repeat(three+"\n", 1024),
	}
	for _, n := range []int{15, 16, 17, 32, 33, 127, 128, 129, 145, 1041, 4095, 4096} {
		l = append(l, letters(n))
	}
	r := rand.New(rand.NewSource(19))
	for _, n := range []int{5, 12, 40, 300, 900} {
		l = append(l, drawn(r, n))
	}
	return l
}

// beyond are numbers that no place, rune or line has, where there are so many and one more.
func beyond(n int) []int {
	return []int{math.MinInt, math.MinInt + 1, -1 << 32, -4097, -2, -1, n + 1, n + 2, n + 17, 1 << 32, math.MaxInt - 1, math.MaxInt}
}

// of is the rope of a text that one may have.
func of(t *testing.T, s string) *rope.Rope {
	t.Helper()
	r, e := rope.Of(s)
	if e != api.OK {
		t.Fatalf("Of(%.50q): %s", s, api.Text(e))
	}
	return r
}

// spelt is the chapter's rules, on a plain text.
type spelt struct {
	s      string
	edges  []int    // where each rune begins, and the end
	rows   []string // each line, without the one that ends it
	starts []int    // where each begins
}

// spell goes over a plain text.
func spell(s string) spelt {
	x := spelt{s: s, rows: strings.Split(s, "\n")}
	for at := range s {
		x.edges = append(x.edges, at)
	}
	x.edges = append(x.edges, len(s))
	at := 0
	for _, row := range x.rows {
		x.starts = append(x.starts, at)
		at += len(row) + 1
	}
	return x
}

// edge is what is wrong with a place.
func (x spelt) edge(at int) api.Errno {
	switch {
	case at < 0 || at > len(x.s):
		return api.ErrRange
	case at < len(x.s) && !utf8.RuneStart(x.s[at]):
		return api.ErrSplit
	}
	return api.OK
}

func (x spelt) rune(at int) (int, api.Errno) {
	if e := x.edge(at); e != api.OK {
		return 0, e
	}
	return utf8.RuneCountInString(x.s[:at]), api.OK
}

func (x spelt) byte(n int) (int, api.Errno) {
	if n < 0 || n >= len(x.edges) {
		return 0, api.ErrRange
	}
	return x.edges[n], api.OK
}

func (x spelt) line(at int) (int, int, api.Errno) {
	if e := x.edge(at); e != api.OK {
		return 0, 0, e
	}
	head := x.s[:at]
	return strings.Count(head, "\n"), utf8.RuneCountInString(head[strings.LastIndex(head, "\n")+1:]), api.OK
}

func (x spelt) start(line int) (int, api.Errno) {
	if line < 0 || line >= len(x.starts) {
		return 0, api.ErrRange
	}
	return x.starts[line], api.OK
}

func (x spelt) row(line int) (string, api.Errno) {
	if line < 0 || line >= len(x.rows) {
		return "", api.ErrRange
	}
	return x.rows[line], api.OK
}

// wantAt holds Rune and Line of a place against the chapter's rules.
func wantAt(t *testing.T, r *rope.Rope, x spelt, at int) {
	t.Helper()
	n, want := x.rune(at)
	if got, e := Rune(r, at); got != n || e != want {
		t.Fatalf("Rune(%.50q, %d): %d, %s, want %d, %s", x.s, at, got, api.Text(e), n, api.Text(want))
	}
	line, n, want := x.line(at)
	if got, many, e := Line(r, at); got != line || many != n || e != want {
		t.Fatalf("Line(%.50q, %d): %d, %d, %s, want %d, %d, %s", x.s, at, got, many, api.Text(e), line, n, api.Text(want))
	}
}

// wantByte holds Byte against the chapter's rule.
func wantByte(t *testing.T, r *rope.Rope, x spelt, n int) {
	t.Helper()
	at, want := x.byte(n)
	if got, e := Byte(r, n); got != at || e != want {
		t.Fatalf("Byte(%.50q, %d): %d, %s, want %d, %s", x.s, n, got, api.Text(e), at, api.Text(want))
	}
}

// wantLine holds Start and Row of a line against the chapter's rules.
func wantLine(t *testing.T, r *rope.Rope, x spelt, line int) {
	t.Helper()
	at, want := x.start(line)
	if got, e := Start(r, line); got != at || e != want {
		t.Fatalf("Start(%.50q, %d): %d, %s, want %d, %s", x.s, line, got, api.Text(e), at, api.Text(want))
	}
	row, want := x.row(line)
	if got, e := Row(r, line); got != row || e != want {
		t.Fatalf("Row(%.50q, %d): %q, %s, want %q, %s", x.s, line, got, api.Text(e), row, api.Text(want))
	}
}

// wantLines holds Lines against the chapter's rule.
func wantLines(t *testing.T, r *rope.Rope, x spelt) {
	t.Helper()
	if got := Lines(r); got != len(x.rows) {
		t.Fatalf("Lines(%.50q): %d, want %d", x.s, got, len(x.rows))
	}
}

// wantAll holds all that a rope is asked for, everywhere, against the chapter's rules.
func wantAll(t *testing.T, r *rope.Rope, s string) {
	t.Helper()
	x := spell(s)
	for at := range len(s) + 1 {
		wantAt(t, r, x, at)
	}
	for _, at := range beyond(len(s)) {
		wantAt(t, r, x, at)
	}
	for n := range x.edges {
		wantByte(t, r, x, n)
	}
	for _, n := range beyond(len(x.edges) - 1) {
		wantByte(t, r, x, n)
	}
	wantLines(t, r, x)
	for line := range x.rows {
		wantLine(t, r, x, line)
	}
	for _, line := range beyond(len(x.rows) - 1) {
		wantLine(t, r, x, line)
	}
}

// wantSome holds what a rope is asked for at some drawn places against the chapter's rules.
func wantSome(t *testing.T, draw *rand.Rand, r *rope.Rope, s string) {
	t.Helper()
	x := spell(s)
	wantLines(t, r, x)
	for _, n := range []int{-1, 0, 1} {
		wantAt(t, r, x, n)
		wantAt(t, r, x, len(s)+n)
		wantByte(t, r, x, n)
		wantByte(t, r, x, len(x.edges)-1+n)
		wantLine(t, r, x, n)
		wantLine(t, r, x, len(x.rows)-1+n)
	}
	for range 5 {
		wantAt(t, r, x, draw.Intn(len(s)+1))
		wantByte(t, r, x, draw.Intn(len(x.edges)))
		wantLine(t, r, x, draw.Intn(len(x.rows)))
	}
}

func TestTheExample(t *testing.T) { // P19.2
	if line, n, e := Line(of(t, "a\nb"), 2); line != 1 || n != 0 || e != api.OK {
		t.Errorf("Line of 2: %d, %d, %s", line, n, api.Text(e))
	}
}

func TestAllOfSomeTexts(t *testing.T) { // P19.1, P19.2
	for _, s := range someTexts() {
		wantAll(t, of(t, s), s)
	}
}

func TestAllOfShortTexts(t *testing.T) { // P19.1, P19.2
	some := []string{"a", "\n", two, three, four}
	l := []string{""}
	for range 5 {
		var next []string
		for _, s := range l {
			wantAll(t, of(t, s), s)
			for _, c := range some {
				next = append(next, s+c)
			}
		}
		l = next
	}
}

func TestRuneAndLineOfSomePlaces(t *testing.T) { // P19.1, P19.2
	r := of(t, "a\n"+three+"b\n")
	for _, x := range []struct {
		at, rune, line, in int
		e                  api.Errno
	}{
		{0, 0, 0, 0, api.OK},
		// ahead of the line end, which is its own line's
		{1, 1, 0, 1, api.OK},
		{2, 2, 1, 0, api.OK},
		{3, 0, 0, 0, api.ErrSplit},
		{4, 0, 0, 0, api.ErrSplit},
		{5, 3, 1, 1, api.OK},
		{6, 4, 1, 2, api.OK},
		// the end is the place of a line that is empty
		{7, 5, 2, 0, api.OK},
		{8, 0, 0, 0, api.ErrRange},
		{-1, 0, 0, 0, api.ErrRange},
		{math.MinInt, 0, 0, 0, api.ErrRange},
		{math.MaxInt, 0, 0, 0, api.ErrRange},
	} {
		if n, e := Rune(r, x.at); n != x.rune || e != x.e {
			t.Errorf("Rune(%d): %d, %s", x.at, n, api.Text(e))
		}
		if line, n, e := Line(r, x.at); line != x.line || n != x.in || e != x.e {
			t.Errorf("Line(%d): %d, %d, %s", x.at, line, n, api.Text(e))
		}
	}
}

func TestByteOfSomeRunes(t *testing.T) { // P19.1
	r := of(t, "a\n"+three+four+two)
	for _, x := range []struct {
		n, at int
		e     api.Errno
	}{{0, 0, api.OK}, {1, 1, api.OK}, {2, 2, api.OK}, {3, 5, api.OK}, {4, 9, api.OK}, {5, 11, api.OK}, {6, 0, api.ErrRange}, {11, 0, api.ErrRange}, {-1, 0, api.ErrRange}, {math.MinInt, 0, api.ErrRange}, {math.MaxInt, 0, api.ErrRange}} {
		if at, e := Byte(r, x.n); at != x.at || e != x.e {
			t.Errorf("Byte(%d): %d, %s", x.n, at, api.Text(e))
		}
	}
}

func TestStartAndRowOfSomeLines(t *testing.T) { // P19.2
	for _, x := range []struct {
		s      string
		starts []int
		rows   []string
	}{
		{"", []int{0}, []string{""}},
		{"a", []int{0}, []string{"a"}},
		{"\n", []int{0, 1}, []string{"", ""}},
		{"a\nb", []int{0, 2}, []string{"a", "b"}},
		{"a\n\nb\n", []int{0, 2, 3, 5}, []string{"a", "", "b", ""}},
		{three + "\r\n" + four, []int{0, 5}, []string{three + "\r", four}},
		{letters(16) + "b", []int{0, 16}, []string{letters(15), "b"}},
	} {
		r := of(t, x.s)
		if got := Lines(r); got != len(x.rows) {
			t.Errorf("Lines(%q): %d", x.s, got)
		}
		for line, row := range x.rows {
			if at, e := Start(r, line); at != x.starts[line] || e != api.OK {
				t.Errorf("Start(%q, %d): %d, %s", x.s, line, at, api.Text(e))
			}
			if got, e := Row(r, line); got != row || e != api.OK {
				t.Errorf("Row(%q, %d): %q, %s", x.s, line, got, api.Text(e))
			}
		}
		for _, line := range beyond(len(x.rows) - 1) {
			if at, e := Start(r, line); at != 0 || e != api.ErrRange {
				t.Errorf("Start(%q, %d): %d, %s", x.s, line, at, api.Text(e))
			}
			if got, e := Row(r, line); got != "" || e != api.ErrRange {
				t.Errorf("Row(%q, %d): %q, %s", x.s, line, got, api.Text(e))
			}
		}
	}
}

func TestRopesThatNoCallMade(t *testing.T) { // P19.1, P19.2, R1, R5
	for _, r := range []*rope.Rope{nil, {}, new(rope.Rope)} {
		wantAll(t, r, "")
	}
}

func TestManyEditsAreAsOnAPlainText(t *testing.T) { // P19.1, P19.2
	draw := rand.New(rand.NewSource(191))
	for _, long := range []int{1, 3, 20, 150} {
		for range 6 {
			r, s := of(t, ""), ""
			for range 200 {
				x := spell(s)
				at, n := x.edges[draw.Intn(len(x.edges))], draw.Intn(2*long)
				put := drawn(draw, n)
				next, e := r.Insert(at, put)
				s2 := s[:at] + put + s[at:]
				if draw.Intn(3) == 0 || len(s) > 3500 {
					to := x.edges[draw.Intn(len(x.edges))]
					at, to = min(at, to), max(at, to)
					next, e = r.Delete(at, to-at)
					s2 = s[:at] + s[to:]
				}
				if e == api.OK {
					r, s = next, s2
				}
				wantSome(t, draw, r, s)
			}
			wantAll(t, r, s)
		}
	}
}

func TestTreesOfOtherShapes(t *testing.T) { // P19.1, P19.2
	// Letter by letter at one place: such trees have few knots under each, and chunks of other lengths.
	for _, where := range []func(x spelt) int{
		func(spelt) int { return 0 },
		func(x spelt) int { return len(x.s) },
		func(x spelt) int { return x.edges[len(x.edges)/2] },
		func(x spelt) int { return x.edges[len(x.edges)/10] },
	} {
		draw := rand.New(rand.NewSource(192))
		r, s := of(t, ""), ""
		for range 1200 {
			at, put := where(spell(s)), drawn(draw, 1)
			next, e := r.Insert(at, put)
			if e != api.OK {
				t.Fatalf("Insert(%d, %q): %s", at, put, api.Text(e))
			}
			r, s = next, s[:at]+put+s[at:]
			wantSome(t, draw, r, s)
		}
		wantAll(t, r, s)
	}
}

func TestByteOfRuneIsThePlace(t *testing.T) { // P19.3
	for _, s := range someTexts() {
		r := of(t, s)
		for at := range len(s) + 1 {
			if !r.Edge(at) {
				continue
			}
			n, e := Rune(r, at)
			back, e2 := Byte(r, n)
			if back != at || e != api.OK || e2 != api.OK {
				t.Fatalf("%.50q: Rune(%d) is %d, %s, and Byte of that %d, %s", s, at, n, api.Text(e), back, api.Text(e2))
			}
		}
	}
}

func TestLineOfStartIsThatLine(t *testing.T) { // P19.3
	for _, s := range someTexts() {
		r := of(t, s)
		for line := range Lines(r) {
			at, e := Start(r, line)
			back, n, e2 := Line(r, at)
			if back != line || n != 0 || e != api.OK || e2 != api.OK {
				t.Fatalf("%.50q: Start(%d) is %d, %s, and Line of that %d, %d, %s", s, line, at, api.Text(e), back, n, api.Text(e2))
			}
		}
	}
}

func TestRowsAreTheText(t *testing.T) { // P19.2
	for _, s := range someTexts() {
		r := of(t, s)
		var l []string
		for line := range Lines(r) {
			row, _ := Row(r, line)
			l = append(l, row)
		}
		if got := strings.Join(l, "\n"); got != s {
			t.Fatalf("the rows of %.50q: %.50q", s, got)
		}
	}
}

func TestTheRopeIsLeftAsItIs(t *testing.T) { // R2, R3, R4
	for _, s := range someTexts() {
		r := of(t, s)
		root := r.Root()
		useAll(r)
		if r.Root() != root || r.Text() != s || !r.Right() {
			t.Fatalf("the rope of %.50q is another one", s)
		}
		wantSome(t, rand.New(rand.NewSource(193)), r, s)
	}
}

// useAll calls all that there is, at some places.
func useAll(r *rope.Rope) {
	Lines(r)
	for _, n := range append([]int{0, 1, 8, 16, 17, 100, r.Len() - 1, r.Len(), r.Len() + 1, r.Count().Runes, r.Count().Lines, r.Count().Lines + 1}, beyond(4096)...) {
		Rune(r, n)
		Byte(r, n)
		Line(r, n)
		Start(r, n)
		Row(r, n)
	}
}

func TestAKnotOfARopeThatIsLaidOverAnother(t *testing.T) { // R1
	done := make(chan struct{})
	go func() {
		defer close(done)
		for _, n := range []int{1, 16, 17, 300, 4096} {
			for depth := range of(t, letters(n)).Height() + 1 {
				for _, other := range []func(root *knot.Knot) knot.Knot{
					func(*knot.Knot) knot.Knot { return knot.Knot{} },
					func(root *knot.Knot) knot.Knot { return *root },
					func(*knot.Knot) knot.Knot { return *knot.Leaf(four) },
					func(*knot.Knot) knot.Knot { return *of(t, letters(4000)).Root() },
				} {
					for _, last := range []bool{false, true} {
						r := of(t, letters(n))
						*below(r.Root(), depth, last) = other(r.Root())
						useAll(r)
					}
				}
			}
		}
	}()
	select {
	case <-done:
	case <-time.After(60 * time.Second):
		t.Fatal("it does not end")
	}
}

// below is the first or the last knot so many levels below k.
func below(k *knot.Knot, depth int, last bool) *knot.Knot {
	for range depth {
		kids := k.Kids()
		k = kids[0]
		if last {
			k = kids[len(kids)-1]
		}
	}
	return k
}
