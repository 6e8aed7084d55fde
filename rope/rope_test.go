package rope

import (
	"math"
	"math/bits"
	"math/rand"
	"strings"
	"testing"
	"time"
	"unicode/utf8"

	"stylus/api"
	"stylus/knot"
)

// Runes of two to four bytes.
const (
	two   = "\u00e9"
	three = "\u20ac"
	four  = "\U0001f600"
)

// letters is a text of so many letters, no two alike within sixteen.
func letters(n int) string {
	return strings.Repeat("abcdefghijklmno\n", n/16+1)[:n]
}

// drawn is a text of so many drawn runes of all sizes, line ends among them.
func drawn(r *rand.Rand, runes int) string {
	some := []string{"a", "b", "\n", "\x00", "\u007f", "\ufffd", two, three, four}
	var s strings.Builder
	for range runes {
		s.WriteString(some[r.Intn(len(some))])
	}
	return s.String()
}

// someTexts are texts that a rope may have, up to the longest ones.
func someTexts() []string {
	l := []string{"", "a", "ab", "\n", "\x00", two, three, four, "\ufffd", "a\n" + three + four, strings.Repeat(four, 1024), strings.Repeat(three, 1365) + "a", "a" + strings.Repeat(two, 2047) + "b"}
	for _, n := range []int{15, 16, 17, 32, 33, 127, 128, 129, 145, 1041, 4095, 4096} {
		l = append(l, letters(n))
	}
	r := rand.New(rand.NewSource(18))
	for _, n := range []int{5, 12, 40, 300} {
		l = append(l, drawn(r, n))
	}
	return l
}

// noTexts are texts that are not valid, some of them too long as well.
func noTexts() []string {
	return []string{"\xff", "\x80", "a\xe2\x82", "\x82\xac", "\xed\xa0\x80", "\xc0\x80", "\xf4\x90\x80\x80", letters(16) + "\xff", letters(4095) + "\xc3", letters(4096) + "\xc3", "\xa9" + letters(9000)}
}

// places are all places of a text, and some that there are not.
func places(s string) []int {
	l := []int{math.MinInt, math.MinInt + 1, -4097, -17, -1, len(s) + 1, len(s) + 17, math.MaxInt - 1, math.MaxInt}
	for at := range len(s) + 1 {
		l = append(l, at)
	}
	return l
}

// unmade are ropes that no call made: the empty text.
func unmade() []*Rope { return []*Rope{nil, {}, new(Rope)} }

// speltEdge is chapter 1's rule of an edge.
func speltEdge(s string, at int) bool {
	return at == 0 || at == len(s) || at > 0 && at < len(s) && utf8.RuneStart(s[at])
}

// speltStand tells whether n bytes of s stand from at on.
func speltStand(s string, at, n int) bool {
	return at >= 0 && at <= len(s) && n >= 0 && n <= len(s[at:])
}

// speltInsert is the chapter's rule of Insert, on a plain text.
func speltInsert(s string, at int, put string) (string, api.Errno) {
	switch {
	case at < 0 || at > len(s):
		return "", api.ErrRange
	case !speltEdge(s, at):
		return "", api.ErrSplit
	case !utf8.ValidString(put):
		return "", api.ErrForm
	case len(s)+len(put) > 4096:
		return "", api.ErrLong
	}
	return s[:at] + put + s[at:], api.OK
}

// speltDelete is the chapter's rule of Delete, on a plain text.
func speltDelete(s string, at, n int) (string, api.Errno) {
	switch {
	case !speltStand(s, at, n):
		return "", api.ErrRange
	case !speltEdge(s, at) || !speltEdge(s, at+n):
		return "", api.ErrSplit
	}
	return s[:at] + s[at+n:], api.OK
}

// speltSlice is the chapter's rule of Slice, on a plain text.
func speltSlice(s string, at, n int) (string, api.Errno) {
	if !speltStand(s, at, n) {
		return "", api.ErrRange
	}
	return s[at : at+n], api.OK
}

// speltTight is chapter 15's rule of what is tight.
func speltTight(chunks []string) bool {
	for i, s := range chunks {
		if s == "" || len(s) > 16 || !utf8.ValidString(s) {
			return false
		}
		if i > 0 && len(chunks[i-1])+len(s) <= 16 {
			return false
		}
	}
	return true
}

// of is the rope of a text that one may have.
func of(t *testing.T, s string) *Rope {
	t.Helper()
	r, e := Of(s)
	if e != api.OK || r == nil {
		t.Fatalf("Of(%.50q): %v, %s", s, r, api.Text(e))
	}
	return r
}

// wantRope holds all that a rope tells without arguments against its text.
func wantRope(t *testing.T, what string, r *Rope, s string) {
	t.Helper()
	if got := r.Text(); got != s {
		t.Fatalf("%s: text %q, want %q", what, got, s)
	}
	if got := r.Len(); got != len(s) {
		t.Fatalf("%s: %d bytes, want %d", what, got, len(s))
	}
	count := api.Count{Bytes: len(s), Runes: utf8.RuneCountInString(s), Lines: strings.Count(s, "\n")}
	if got := r.Count(); got != count {
		t.Fatalf("%s: count %v, want %v", what, got, count)
	}
	k := r.Root()
	if (k == nil) != (s == "") {
		t.Fatalf("%s: the tree is nil %v of the text %q", what, k == nil, s)
	}
	if k.Text() != s || !k.Right() || !speltTight(k.Chunks()) {
		t.Fatalf("%s: the tree of %q is of %q, right %v", what, s, k.Chunks(), k.Right())
	}
	if r.Height() != k.Height() || r.Height() > bits.Len(uint(len(s))) {
		t.Fatalf("%s: height %d of %d bytes, its tree's %d", what, r.Height(), len(s), k.Height())
	}
	if !r.Right() {
		t.Fatalf("%s: the rope of %q is not right", what, s)
	}
}

// wantMade holds what a call that makes a rope answered: the rope of a text, or an error and nil.
func wantMade(t *testing.T, what string, r *Rope, e api.Errno, s string, want api.Errno) {
	t.Helper()
	if e != want {
		t.Fatalf("%s: %s, want %s", what, api.Text(e), api.Text(want))
	}
	if (r == nil) != (e != api.OK) {
		t.Fatalf("%s: %s, and nil %v", what, api.Text(e), r == nil)
	}
	if e == api.OK {
		wantRope(t, what, r, s)
	}
}

// wantInsert holds an Insert into the rope of s against the chapter's rule.
func wantInsert(t *testing.T, r *Rope, s string, at int, put string) (*Rope, string) {
	t.Helper()
	text, want := speltInsert(s, at, put)
	got, e := r.Insert(at, put)
	wantMade(t, "Insert", got, e, text, want)
	return got, text
}

// wantDelete holds a Delete of the rope of s against the chapter's rule.
func wantDelete(t *testing.T, r *Rope, s string, at, n int) (*Rope, string) {
	t.Helper()
	text, want := speltDelete(s, at, n)
	got, e := r.Delete(at, n)
	wantMade(t, "Delete", got, e, text, want)
	return got, text
}

// wantSlice holds a Slice of the rope of s against the chapter's rule.
func wantSlice(t *testing.T, r *Rope, s string, at, n int) {
	t.Helper()
	text, want := speltSlice(s, at, n)
	if got, e := r.Slice(at, n); got != text || e != want {
		t.Fatalf("Slice(%d, %d) of %.50q: %q, %s, want %q, %s", at, n, s, got, api.Text(e), text, api.Text(want))
	}
}

// someOf are about so many of l, its first ones always: of long texts each place would take long.
func someOf(l []int, n int) []int {
	if len(l) <= n {
		return l
	}
	some := append([]int{}, l[:10]...)
	for i := 10; i < len(l); i += len(l)/n + 1 {
		some = append(some, l[i])
	}
	return append(some, l[len(l)-2:]...)
}

func TestTheExample(t *testing.T) { // P18.2
	r, e := of(t, "ab").Insert(1, "x")
	wantMade(t, "Insert", r, e, "axb", api.OK)
}

func TestOf(t *testing.T) { // P18.1, P18.3, P18.4
	for _, s := range someTexts() {
		wantRope(t, "Of", of(t, s), s)
	}
	for n := range 600 {
		wantRope(t, "Of", of(t, letters(n)), letters(n))
	}
}

func TestOfWhatNoRopeHas(t *testing.T) { // P18.1
	for _, s := range noTexts() {
		r, e := Of(s)
		wantMade(t, "Of what is not valid", r, e, "", api.ErrForm)
	}
	for _, s := range []string{letters(4097), letters(10000), letters(1 << 20), letters(4093) + four, strings.Repeat(three, 1366), strings.Repeat(four, 1024) + "\n"} {
		r, e := Of(s)
		wantMade(t, "Of what is too long", r, e, "", api.ErrLong)
	}
}

func TestRopesThatNoCallMade(t *testing.T) { // P18.1, P18.2, P18.3, R5
	for _, r := range unmade() {
		wantRope(t, "no call's", r, "")
		for _, at := range places("") {
			for _, s := range append(someTexts(), noTexts()...) {
				wantInsert(t, r, "", at, s)
			}
			for _, n := range places("") {
				wantDelete(t, r, "", at, n)
				wantSlice(t, r, "", at, n)
			}
			if got := r.Edge(at); got != (at == 0) {
				t.Errorf("Edge(%d) of no call's: %v", at, got)
			}
		}
		wantRope(t, "no call's, behind all that", r, "")
	}
	if h := (*Rope)(nil).Height(); h != -1 {
		t.Errorf("the empty text is %d high", h)
	}
}

func TestEdge(t *testing.T) { // P18.1
	for _, s := range someTexts() {
		r := of(t, s)
		for _, at := range places(s) {
			if got := r.Edge(at); got != speltEdge(s, at) {
				t.Fatalf("Edge(%d) of %.50q: %v", at, s, got)
			}
		}
	}
}

func TestInsert(t *testing.T) { // P18.2, P18.3
	put := append(noTexts(), "", "x", two, four, letters(16), letters(17), letters(300), strings.Repeat(three, 50))
	for _, s := range someTexts() {
		r := of(t, s)
		for _, at := range someOf(places(s), 40) {
			for _, x := range put {
				wantInsert(t, r, s, at, x)
			}
		}
		wantRope(t, "behind all inserts", r, s)
	}
}

func TestInsertTellsTheFirstErrorOfAll(t *testing.T) { // P18.2, R2
	full := strings.Repeat(four, 1024)
	r := of(t, full)
	for _, x := range []struct {
		at   int
		s    string
		want api.Errno
	}{
		{-1, letters(4096) + "\xff", api.ErrRange}, {4097, letters(4096) + "\xff", api.ErrRange}, {math.MinInt, "\xff", api.ErrRange}, {math.MaxInt, "\xff", api.ErrRange},
		{-1, "", api.ErrRange}, {4097, "", api.ErrRange}, {4097, "a", api.ErrRange},
		{1, letters(4096) + "\xff", api.ErrSplit}, {2, "\xff", api.ErrSplit}, {4095, "a", api.ErrSplit}, {4093, "", api.ErrSplit},
		{0, letters(4096) + "\xff", api.ErrForm}, {4, "\xff", api.ErrForm}, {4096, "\x80", api.ErrForm},
		{0, "a", api.ErrLong}, {4092, "a", api.ErrLong}, {4096, letters(1 << 20), api.ErrLong},
		{0, "", api.OK}, {4, "", api.OK}, {4096, "", api.OK},
	} {
		got, e := r.Insert(x.at, x.s)
		wantMade(t, "Insert into a full rope", got, e, full, x.want)
	}
}

func TestInsertUpToTheLongest(t *testing.T) { // P18.2
	for n := range 40 {
		s := letters(4096 - n)
		r := of(t, s)
		for _, at := range []int{0, 1, len(s) / 2, len(s) - 1, len(s)} {
			for _, put := range []int{n - 1, n, n + 1} {
				wantInsert(t, r, s, at, letters(max(0, put)))
			}
		}
	}
	wantInsert(t, of(t, ""), "", 0, letters(4096))
	wantInsert(t, of(t, ""), "", 0, letters(4097))
}

func TestDeleteAndSliceAtAllPlaces(t *testing.T) { // P18.2, P18.3
	for _, s := range someTexts() {
		r := of(t, s)
		some := someOf(places(s), 50)
		for _, at := range some {
			for _, n := range some {
				wantDelete(t, r, s, at, n)
				wantSlice(t, r, s, at, n)
			}
			// Just what stands behind the place, and one byte more, and all ends of int.
			for _, n := range []int{len(s) - min(max(0, at), len(s)), len(s) - min(max(0, at), len(s)) + 1, math.MaxInt - max(0, at), math.MaxInt, math.MinInt} {
				wantDelete(t, r, s, at, n)
				wantSlice(t, r, s, at, n)
			}
		}
		wantRope(t, "behind all that", r, s)
	}
}

func TestDeleteAndSliceOfShortTexts(t *testing.T) { // P18.2
	for _, s := range []string{"a" + four + "b" + two + three, letters(35), strings.Repeat(three, 12)} {
		r := of(t, s)
		for at := -2; at <= len(s)+2; at++ {
			for n := -2; n <= len(s)+2; n++ {
				wantDelete(t, r, s, at, n)
				wantSlice(t, r, s, at, n)
			}
		}
	}
}

func TestDeleteTellsTheFirstErrorOfAll(t *testing.T) { // P18.2, R2
	s := "a" + four + "b"
	r := of(t, s)
	for _, x := range []struct {
		at, n int
		want  api.Errno
	}{
		{2, -1, api.ErrRange}, {2, 5, api.ErrRange}, {7, 0, api.ErrRange}, {-1, 1, api.ErrRange}, {0, 7, api.ErrRange}, {1, math.MaxInt, api.ErrRange}, {math.MaxInt, math.MaxInt, api.ErrRange},
		{2, 0, api.ErrSplit}, {2, 3, api.ErrSplit}, {1, 1, api.ErrSplit}, {0, 4, api.ErrSplit}, {2, 1, api.ErrSplit},
		{0, 0, api.OK}, {6, 0, api.OK}, {1, 4, api.OK}, {0, 6, api.OK},
	} {
		text, _ := speltDelete(s, x.at, x.n)
		got, e := r.Delete(x.at, x.n)
		wantMade(t, "Delete", got, e, text, x.want)
	}
}

func TestSliceWithinRunes(t *testing.T) { // P18.2
	s := "a" + four + three
	r := of(t, s)
	for _, x := range []struct {
		at, n int
		want  string
	}{{1, 1, "\xf0"}, {2, 2, "\x9f\x98"}, {4, 2, "\x80\xe2"}, {7, 1, "\xac"}, {8, 0, ""}, {3, 0, ""}} {
		if got, e := r.Slice(x.at, x.n); got != x.want || e != api.OK {
			t.Errorf("Slice(%d, %d): %q, %s", x.at, x.n, got, api.Text(e))
		}
	}
}

func TestManyEditsAreAsOnAPlainText(t *testing.T) { // P18.1, P18.2, P18.3, P18.4
	r := rand.New(rand.NewSource(181))
	for _, long := range []int{1, 3, 20, 150} {
		for range 8 {
			rope, s := of(t, ""), ""
			for range 300 {
				at, n := r.Intn(len(s)+3)-1, r.Intn(2*long)
				before, was := rope, s
				if r.Intn(3) == 0 || len(s) > 4000 && r.Intn(2) == 0 {
					rope, s = wantDelete(t, before, was, at, n)
				} else {
					rope, s = wantInsert(t, before, was, at, drawn(r, n))
				}
				// What was refused leaves the rope that was.
				if rope == nil {
					rope, s = before, was
				}
				wantSlice(t, rope, s, r.Intn(len(s)+1), r.Intn(40))
				if at := r.Intn(len(s) + 1); rope.Edge(at) != speltEdge(s, at) {
					t.Fatalf("Edge(%d) of %q", at, s)
				}
			}
		}
	}
}

func TestLetterByLetter(t *testing.T) { // P18.2, P18.3, P18.4
	// Always at one end, or always at one place within: what a tree must be put right for most often.
	for _, where := range []func(n int) int{
		func(int) int { return 0 },
		func(n int) int { return n },
		func(n int) int { return n / 2 },
		func(n int) int { return n / 10 },
	} {
		r, s := of(t, ""), ""
		for n := range 4096 {
			next, e := r.Insert(where(n), "x")
			if e != api.OK {
				t.Fatalf("Insert of the letter %d: %s", n, api.Text(e))
			}
			r, s = next, s+"x"
			if n%128 == 0 || n > 4090 {
				wantRope(t, "letter by letter", r, s)
			}
		}
		for n := 4095; n >= 0; n-- {
			next, e := r.Delete(min(where(n), n), 1)
			if e != api.OK {
				t.Fatalf("Delete of the letter %d: %s", n, api.Text(e))
			}
			r, s = next, s[1:]
			if n%128 == 0 || n < 5 {
				wantRope(t, "letter by letter taken away", r, s)
			}
		}
	}
}

func TestARopeNeverChanges(t *testing.T) { // R3
	type kept struct {
		r *Rope
		s string
	}
	draw := rand.New(rand.NewSource(182))
	all := []kept{{of(t, ""), ""}, {of(t, letters(700)), letters(700)}, {nil, ""}}
	for range 300 {
		x := all[draw.Intn(len(all))]
		at := draw.Intn(len(x.s) + 1)
		if r, s := wantInsert(t, x.r, x.s, at, drawn(draw, draw.Intn(30))); r != nil {
			all = append(all, kept{r, s})
		}
		if r, s := wantDelete(t, x.r, x.s, at, draw.Intn(30)); r != nil {
			all = append(all, kept{r, s})
		}
	}
	for _, x := range all {
		wantRope(t, "a rope that others were made of", x.r, x.s)
	}
}

func TestWhatIsToldIsTheCallersOwn(t *testing.T) { // R3
	s := letters(200)
	r := of(t, s)
	kids, chunks := r.Root().Kids(), r.Root().Chunks()
	clear(kids)
	clear(chunks)
	wantRope(t, "behind a change of what it told", r, s)
}

func TestRightFindsWhatIsNot(t *testing.T) { // P18.3
	join := func(chunks ...string) *knot.Knot {
		var l []*knot.Knot
		for _, s := range chunks {
			l = append(l, knot.Leaf(s))
		}
		return knot.Up(l)
	}
	for _, k := range []*knot.Knot{nil, join("a"), join(letters(16), "a"), join("a", letters(16), "b")} {
		if !(&Rope{root: k}).Right() {
			t.Errorf("a rope of %q is not right", k.Chunks())
		}
	}
	for _, k := range []*knot.Knot{join("a", "b"), join(letters(16), "a", letters(15)), join(letters(16), letters(16), letters(8), letters(8)), {}} {
		if (&Rope{root: k}).Right() {
			t.Errorf("a rope of %q is right", k.Chunks())
		}
	}
}

// useAll calls all that a rope has, at some places.
func useAll(r *Rope) {
	r.Text()
	r.Count()
	r.Root()
	r.Height()
	r.Right()
	for _, at := range []int{math.MinInt, -1, 0, 1, 8, r.Len() - 1, r.Len(), r.Len() + 1, 5000, math.MaxInt} {
		r.Edge(at)
		r.Insert(at, "x")
		r.Insert(at, letters(4000))
		for _, n := range []int{math.MinInt, -1, 0, 1, 9, r.Len(), math.MaxInt} {
			r.Delete(at, n)
			r.Slice(at, n)
		}
	}
}

func TestAKnotOfARopeThatIsLaidOverAnother(t *testing.T) { // R1
	done := make(chan struct{})
	go func() {
		defer close(done)
		for _, n := range []int{1, 16, 17, 300, 4096} {
			for depth := range of(t, letters(n)).Height() + 1 {
				for _, other := range []func(root *knot.Knot) knot.Knot{
					func(*knot.Knot) knot.Knot { return knot.Knot{} },
					func(root *knot.Knot) knot.Knot { return *root },
					func(*knot.Knot) knot.Knot { return *knot.Leaf(four) },
					func(*knot.Knot) knot.Knot { return *of(t, letters(4000)).Root() },
				} {
					r := of(t, letters(n))
					k := r.Root()
					for range depth {
						k = k.Kids()[0]
					}
					*k = other(r.Root())
					useAll(r)
				}
			}
		}
	}()
	select {
	case <-done:
	case <-time.After(60 * time.Second):
		t.Fatal("it does not end")
	}
}
