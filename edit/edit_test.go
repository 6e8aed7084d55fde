package edit

import (
	"fmt"
	"math"
	"math/big"
	"math/rand"
	"strings"
	"testing"
	"unicode/utf8"

	"stylus/api"
)

// Runes of two to four bytes.
const (
	two   = "\u00e9"
	three = "\u20ac"
	four  = "\U0001f600"
)

// ends are numbers at the ends of ints, and around them.
var ends = []int{math.MinInt, math.MinInt + 1, math.MinInt + 2, math.MinInt + 3, -1 << 32, -4097, -2, -1, 1 << 31, 1 << 32, math.MaxInt - 3, math.MaxInt - 2, math.MaxInt - 1, math.MaxInt}

// a is an edit, in one word.
func a(at int, old, new string) api.Edit { return api.Edit{At: at, Old: old, New: new} }

// told is an edit as text, cut short.
func told(e api.Edit) string { return fmt.Sprintf("{%d %.40q %.40q}", e.At, e.Old, e.New) }

// made is all texts of up to n pieces.
func made(some []string, n int) []string {
	l, last := []string{""}, []string{""}
	for range n {
		var next []string
		for _, s := range last {
			for _, c := range some {
				next = append(next, s+c)
			}
		}
		l, last = append(l, next...), next
	}
	return l
}

// drawn is a valid text of so many drawn runes of all sizes.
func drawn(r *rand.Rand, runes int) string {
	some := []string{"a", "b", "\n", "\x00", "\ufffd", two, three, four}
	var s strings.Builder
	for range runes {
		s.WriteString(some[r.Intn(len(some))])
	}
	return s.String()
}

// edges are all places of a valid text at which no rune is cut.
func edges(s string) []int {
	var l []int
	for at := range s {
		l = append(l, at)
	}
	return append(l, len(s))
}

// drawnEdit is an edit that puts up to so many runes in the place of what stands between two edges of a valid text.
func drawnEdit(r *rand.Rand, s string, runes int) api.Edit {
	l := edges(s)
	i := r.Intn(len(l))
	j := min(len(l)-1, i+r.Intn(runes+1))
	return a(l[i], s[l[i]:l[j]], drawn(r, r.Intn(runes+1)))
}

// isEdge is chapter 1's rule of an edge, of a place that there is.
func isEdge(s string, at int) bool {
	return at == 0 || at == len(s) || s[at]&0xc0 != 0x80
}

// apply is the chapter's rule of Apply, spelt out: each error by itself, the first one that applies counts.
func apply(text string, e api.Edit) (string, api.Errno) {
	if e.At < 0 || e.At > len(text) {
		return "", api.ErrRange
	}
	ahead, rest := text[:e.At], text[e.At:]
	if !strings.HasPrefix(rest, e.Old) {
		return "", api.ErrNone
	}
	behind := rest[len(e.Old):]
	if !isEdge(text, len(ahead)) || !isEdge(text, len(text)-len(behind)) {
		return "", api.ErrSplit
	}
	if !utf8.ValidString(e.Old) || !utf8.ValidString(e.New) {
		return "", api.ErrForm
	}
	s := strings.Join([]string{ahead, e.New, behind}, "")
	if len(s) > 4096 {
		return "", api.ErrLong
	}
	return s, api.OK
}

// shift is the chapter's rule of Shift, spelt out with numbers that do not wrap; a place beyond the ints' end is that end.
func shift(e api.Edit, at int) int {
	place, begin := big.NewInt(int64(at)), big.NewInt(int64(e.At))
	end := new(big.Int).Add(begin, big.NewInt(int64(len(e.Old))))
	if place.Cmp(begin) <= 0 {
		return at
	}
	if place.Cmp(end) < 0 {
		return e.At
	}
	place.Add(place, big.NewInt(int64(len(e.New)-len(e.Old))))
	if !place.IsInt64() {
		return math.MaxInt
	}
	return int(place.Int64())
}

// wantApply holds Apply and Right against what the one is to tell.
func wantApply(t *testing.T, text string, e api.Edit, s string, err api.Errno) {
	t.Helper()
	got, gotErr := Apply(text, e)
	if got != s || gotErr != err {
		t.Fatalf("Apply(%.40q, %s): %.40q, %s, want %.40q, %s", text, told(e), got, api.Text(gotErr), s, api.Text(err))
	}
	if right := Right(text, e); right != (err == api.OK) {
		t.Fatalf("Right(%.40q, %s): %v, but Apply tells %s", text, told(e), right, api.Text(err))
	}
}

// wantShift holds Shift against a place.
func wantShift(t *testing.T, e api.Edit, at, want int) {
	t.Helper()
	if got := Shift(e, at); got != want {
		t.Fatalf("Shift(%s, %d): %d, want %d", told(e), at, got, want)
	}
}

func TestTheExample(t *testing.T) { // P21.1
	wantApply(t, "ab", a(1, "b", "cd"), "acd", api.OK)
}

func TestApplyOfSomeEdits(t *testing.T) { // P21.1
	for _, x := range []struct {
		text string
		e    api.Edit
		want string
	}{
		{"", a(0, "", ""), ""},
		{"", a(0, "", "a"), "a"},
		{"ab", a(0, "", "x"), "xab"},
		{"ab", a(1, "", "x"), "axb"},
		{"ab", a(2, "", "x"), "abx"},
		{"ab", a(0, "a", ""), "b"},
		{"ab", a(1, "b", ""), "a"},
		{"ab", a(0, "ab", ""), ""},
		{"ab", a(0, "ab", "xyz"), "xyz"},
		{"ab", a(1, "", ""), "ab"},
		{"ab", a(1, "b", "b"), "ab"},
		// the one that stands at At, not the first one
		{"aaa", a(1, "a", "x"), "axa"},
		{"abab", a(2, "ab", "x"), "abx"},
		{"a\nb", a(1, "\n", "\x00"), "a\x00b"},
		{"a" + three + "b", a(1, three, four), "a" + four + "b"},
		{two + three + four, a(2, three+four, "a"), two + "a"},
		{two + three + four, a(5, "", "a"), two + three + "a" + four},
		{"\ufffd", a(0, "\ufffd", "a"), "a"},
	} {
		wantApply(t, x.text, x.e, x.want, api.OK)
	}
}

func TestApplyOfPlacesThatThereAreNot(t *testing.T) { // P21.1, R1
	for _, text := range []string{"", "a", "ab", three, strings.Repeat("a", 4096)} {
		for _, at := range append([]int{len(text) + 1, len(text) + 2}, ends...) {
			for _, old := range []string{"", "a", text, "\xff", strings.Repeat("a", 5000)} {
				wantApply(t, text, a(at, old, "x"), "", api.ErrRange)
			}
		}
	}
}

func TestApplyWhereOldDoesNotStand(t *testing.T) { // P21.1
	for _, x := range []struct {
		text string
		e    api.Edit
	}{
		{"", a(0, "a", "")},
		{"ab", a(0, "b", "")},
		{"ab", a(1, "a", "")},
		{"ab", a(0, "abc", "")},
		{"ab", a(1, "bc", "b")},
		{"ab", a(1, "b\x00", "")},
		{"ab", a(2, "a", "")},
		{"ab", a(2, "b", "")},
		{"ab", a(0, "A", "")},
		// New stands there
		{"ab", a(0, "x", "a")},
		{three, a(0, two, "")},
		{three, a(0, three+"a", "")},
		{strings.Repeat("a", 4096), a(0, strings.Repeat("a", 4097), "")},
	} {
		wantApply(t, x.text, x.e, "", api.ErrNone)
	}
}

func TestApplyWithinRunes(t *testing.T) { // P21.1
	for _, c := range []string{two, three, four} {
		text := "a" + c + "b"
		for i := 1; i < len(c); i++ {
			wantApply(t, text, a(1+i, "", "x"), "", api.ErrSplit)
			wantApply(t, text, a(1+i, "", ""), "", api.ErrSplit)
			wantApply(t, text, a(1+i, c[i:], ""), "", api.ErrSplit)
			wantApply(t, text, a(1+i, c[i:]+"b", "x"), "", api.ErrSplit)
			wantApply(t, text, a(1, c[:i], ""), "", api.ErrSplit)
			wantApply(t, text, a(0, "a"+c[:i], "x"), "", api.ErrSplit)
		}
		wantApply(t, text, a(1, c, "x"), "axb", api.OK)
	}
}

func TestApplyOfTextsThatAreNotValid(t *testing.T) { // P21.1
	for _, bad := range []string{"\xff", "\xc0\x80", "\xed\xa0\x80", "\xe2\x82", "\xf4\x90\x80\x80", "a\xff", two + "\xc3"} {
		// in Old, New, and both; as Old it stands between two edges
		wantApply(t, bad+"b", a(0, bad, ""), "", api.ErrForm)
		wantApply(t, "b"+bad, a(1, bad, "x"), "", api.ErrForm)
		wantApply(t, "ab", a(0, "", bad), "", api.ErrForm)
		wantApply(t, "ab", a(2, "", bad), "", api.ErrForm)
		wantApply(t, "ab", a(0, "ab", bad), "", api.ErrForm)
		wantApply(t, bad, a(0, bad, bad), "", api.ErrForm)
		// of the text it is not asked
		wantApply(t, bad+"b", a(len(bad), "b", "x"), bad+"x", api.OK)
		wantApply(t, "b"+bad, a(0, "b", two), two+bad, api.OK)
	}
	// New alone must be valid, also where what comes to stand would be
	wantApply(t, "\xc3", a(1, "", "\xa9"), "", api.ErrForm)
}

func TestApplyUpToTheLongestText(t *testing.T) { // P21.1
	s := func(n int) string { return strings.Repeat("a", n) }
	for _, x := range []struct {
		text, old, new string
		err            api.Errno
	}{
		{"", "", s(4096), api.OK},
		{"", "", s(4097), api.ErrLong},
		{"", "", strings.Repeat(three, 1365) + "a", api.OK},
		{"", "", strings.Repeat(three, 1366), api.ErrLong},
		{s(4095), "", "x", api.OK},
		{s(4095), "", two, api.ErrLong},
		{s(4096), "", "", api.OK},
		{s(4096), "", "x", api.ErrLong},
		{s(4096), "a", "x", api.OK},
		{s(4096), "a", two, api.ErrLong},
		{s(4096), s(4096), s(4096), api.OK},
		{s(4096), s(4096), s(4097), api.ErrLong},
		{s(4096), s(4000), s(4000), api.OK},
		// a text that is too long is not, once it is short enough
		{s(4097), "", "", api.ErrLong},
		{s(4097), "a", "x", api.ErrLong},
		{s(4097), "a", "", api.OK},
		{s(4098), "a", "", api.ErrLong},
		{s(9000), s(9000), "x", api.OK},
		{s(9000), s(9000), s(9000), api.ErrLong},
	} {
		want := ""
		if x.err == api.OK {
			want = x.new + x.text[len(x.old):]
		}
		wantApply(t, x.text, a(0, x.old, x.new), want, x.err)
	}
}

func TestApplyTellsTheFirstErrorAlone(t *testing.T) { // P21.1, P1, R2
	long := strings.Repeat("a", 5000)
	for _, x := range []struct {
		text string
		e    api.Edit
		err  api.Errno
	}{
		// all that can be wrong beside a place that there is not
		{"ab", a(-1, "x", "\xff"), api.ErrRange},
		{"ab", a(3, "\xff", long+"\xff"), api.ErrRange},
		{three, a(4, "\x82", long), api.ErrRange},
		// Old does not stand there, within a rune, or not valid
		{three, a(1, "x", ""), api.ErrNone},
		{three, a(1, "\x83", "\xff"), api.ErrNone},
		{three, a(0, "\xe2\x83", long), api.ErrNone},
		{"ab", a(0, "\xff", "\xff"), api.ErrNone},
		{"ab", a(0, "x", long), api.ErrNone},
		{long, a(0, "x", ""), api.ErrNone},
		// within a rune, and so not valid, or too long
		{three, a(1, "\x82\xac", ""), api.ErrSplit},
		{three, a(0, "\xe2", "\xff"), api.ErrSplit},
		{three, a(1, "", "\xff"), api.ErrSplit},
		{three, a(1, "", long), api.ErrSplit},
		{three + long, a(0, "\xe2\x82", ""), api.ErrSplit},
		// not valid, and too long
		{"ab", a(0, "a", long+"\xff"), api.ErrForm},
		{"\xff", a(0, "\xff", long), api.ErrForm},
		{long, a(1, "", "\xff"), api.ErrForm},
	} {
		wantApply(t, x.text, x.e, "", x.err)
	}
}

func TestApplyOfAllShortEdits(t *testing.T) { // P21.1
	some := made([]string{"a", "\xc3", "\xa9"}, 3)
	for _, text := range made([]string{"a", "\xc3", "\xa9"}, 4) {
		for at := -1; at <= len(text)+1; at++ {
			for _, old := range some {
				for _, new := range []string{"", "a", "b", "\xc3", "\xa9", two, "\xa9a"} {
					e := a(at, old, new)
					s, err := apply(text, e)
					wantApply(t, text, e, s, err)
				}
			}
		}
	}
}

func TestApplyOfDrawnEdits(t *testing.T) { // P21.1
	r := rand.New(rand.NewSource(21))
	for range 20000 {
		text := drawn(r, r.Intn(30))
		e := drawnEdit(r, text, 8)
		switch r.Intn(6) {
		case 0:
			e.At += r.Intn(5) - 2
		case 1:
			e.Old += "a"
		case 2:
			e.New += "\xf0\x9f"
		case 3:
			e.New = strings.Repeat(e.New, r.Intn(2000))
		}
		s, err := apply(text, e)
		wantApply(t, text, e, s, err)
	}
}

func TestInverseOfSomeEdits(t *testing.T) { // P21.1
	for _, x := range []struct{ e, want api.Edit }{
		{a(0, "", ""), a(0, "", "")},
		{a(1, "b", "cd"), a(1, "cd", "b")},
		{a(5, "", "x"), a(5, "x", "")},
		{a(7, "x", ""), a(7, "", "x")},
		{a(2, three, three), a(2, three, three)},
		// edits that no text takes have one, too
		{a(-1, "\xff", "a"), a(-1, "a", "\xff")},
		{a(math.MinInt, "a", ""), a(math.MinInt, "", "a")},
		{a(math.MaxInt, "", "\xff"), a(math.MaxInt, "\xff", "")},
	} {
		if got := Inverse(x.e); got != x.want {
			t.Errorf("Inverse(%s): %s, want %s", told(x.e), told(got), told(x.want))
		}
		if got := Inverse(Inverse(x.e)); got != x.e {
			t.Errorf("the inverse of the inverse of %s: %s", told(x.e), told(got))
		}
	}
}

func TestShiftOfSomeMarks(t *testing.T) { // P21.2
	for _, x := range []struct {
		e        api.Edit
		at, want int
	}{
		// what is put at a mark comes to stand behind it
		{a(3, "", "xy"), 0, 0},
		{a(3, "", "xy"), 2, 2},
		{a(3, "", "xy"), 3, 3},
		{a(3, "", "xy"), 4, 6},
		{a(3, "", ""), 4, 4},
		// what goes takes the marks within it to its place
		{a(3, "abc", ""), 2, 2},
		{a(3, "abc", ""), 3, 3},
		{a(3, "abc", ""), 4, 3},
		{a(3, "abc", ""), 5, 3},
		{a(3, "abc", ""), 6, 3},
		{a(3, "abc", ""), 7, 4},
		// longer ones, and shorter ones
		{a(3, "abc", "vwxyz"), 3, 3},
		{a(3, "abc", "vwxyz"), 4, 3},
		{a(3, "abc", "vwxyz"), 5, 3},
		{a(3, "abc", "vwxyz"), 6, 8},
		{a(3, "abc", "vwxyz"), 9, 11},
		{a(3, "abc", "x"), 3, 3},
		{a(3, "abc", "x"), 4, 3},
		{a(3, "abc", "x"), 5, 3},
		{a(3, "abc", "x"), 6, 4},
		{a(3, "abc", "x"), 9, 7},
		// of the same length, also of the same text
		{a(3, "abc", "xyz"), 5, 3},
		{a(3, "abc", "abc"), 5, 3},
		{a(3, "abc", "abc"), 6, 6},
		// by bytes, not by runes
		{a(0, "a", three), 1, 3},
		{a(0, four, two), 4, 2},
		{a(0, four, two), 5, 3},
		// places that no text has, and edits that none takes
		{a(3, "abc", ""), -1, -1},
		{a(-3, "a", "xyz"), -3, -3},
		{a(-3, "a", "xyz"), -2, 0},
		{a(-3, "ab", "xyz"), -2, -3},
		{a(-3, "a", ""), 0, -1},
		{a(0, "\xff", "\xff\xff"), 9000, 9001},
	} {
		wantShift(t, x.e, x.at, x.want)
	}
}

func TestShiftOfAllPlacesOfShortEdits(t *testing.T) { // P21.2
	for begin := -3; begin < 6; begin++ {
		for olds := range 5 {
			for news := range 5 {
				e := a(begin, strings.Repeat("a", olds), strings.Repeat("b", news))
				for at := -8; at < 16; at++ {
					wantShift(t, e, at, shift(e, at))
				}
			}
		}
	}
}

func TestShiftAtTheEndsOfInts(t *testing.T) { // P21.2, R1, R6
	for _, x := range []struct {
		e        api.Edit
		at, want int
	}{
		{a(0, "", "x"), math.MaxInt - 1, math.MaxInt},
		{a(0, "a", "xy"), math.MaxInt - 1, math.MaxInt},
		{a(0, "abc", "wxyz"), math.MaxInt - 1, math.MaxInt},
		{a(0, "abc", "xyz"), math.MaxInt, math.MaxInt},
		{a(0, "abc", ""), math.MaxInt, math.MaxInt - 3},
		{a(0, "", "x"), math.MaxInt, math.MaxInt},
		{a(0, "", "x"), math.MinInt, math.MinInt},
		{a(math.MaxInt, "abc", "x"), math.MaxInt, math.MaxInt},
		{a(math.MaxInt-1, "a", "xyz"), math.MaxInt, math.MaxInt},
		{a(math.MaxInt-1, "a", ""), math.MaxInt, math.MaxInt - 1},
		{a(math.MaxInt-1, "ab", "xyz"), math.MaxInt, math.MaxInt - 1},
		{a(math.MaxInt-2, "abc", "xyz"), math.MaxInt, math.MaxInt - 2},
		{a(math.MinInt, "", "xyz"), math.MinInt, math.MinInt},
		{a(math.MinInt, "", "xyz"), math.MinInt + 1, math.MinInt + 4},
		{a(math.MinInt, "a", ""), math.MinInt + 1, math.MinInt},
		{a(math.MinInt, "abc", ""), math.MinInt + 1, math.MinInt},
		{a(math.MinInt, "abc", ""), math.MinInt + 4, math.MinInt + 1},
		{a(math.MinInt, "abc", "x"), math.MaxInt, math.MaxInt - 2},
		{a(math.MinInt, "a", "xyz"), math.MaxInt - 1, math.MaxInt},
	} {
		wantShift(t, x.e, x.at, x.want)
	}
	places := append([]int{0, 1, 2, 3, 4, 4096}, ends...)
	for _, begin := range places {
		for _, old := range []string{"", "a", "ab", "abc", "abcd"} {
			for _, new := range []string{"", "x", "xy", "xyz", "wxyz"} {
				for _, at := range places {
					e := a(begin, old, new)
					wantShift(t, e, at, shift(e, at))
				}
			}
		}
	}
}

// wantTakenBack applies an edit to a valid text, takes it back, and looks at where each edge of the text comes to stand.
func wantTakenBack(t *testing.T, text string, e api.Edit) {
	t.Helper()
	s, err := Apply(text, e)
	if err != api.OK || !utf8.ValidString(s) {
		t.Fatalf("Apply(%.40q, %s): %.40q, %s", text, told(e), s, api.Text(err))
	}
	if !Right(s, Inverse(e)) {
		t.Fatalf("%s is not taken back from %.40q", told(e), s)
	}
	wantApply(t, s, Inverse(e), text, api.OK)
	for _, at := range edges(text) {
		to := Shift(e, at)
		if to < 0 || to > len(s) || !isEdge(s, to) {
			t.Fatalf("Shift(%s, %d) of %.40q: %d, which is no edge of %.40q", told(e), at, text, to, s)
		}
		// What stands ahead of a mark does so still, or what stands behind it does.
		if at <= e.At && s[:to] != text[:at] || at >= e.At+len(e.Old) && s[max(to, e.At+len(e.New)):] != text[at:] {
			t.Fatalf("Shift(%s, %d) of %.40q: %d, which is another place of %.40q", told(e), at, text, to, s)
		}
	}
}

func TestWhatWasAppliedIsTakenBack(t *testing.T) { // P21.3
	r := rand.New(rand.NewSource(213))
	for _, runes := range []int{0, 1, 3, 30, 1000} {
		for range 500 {
			text := drawn(r, r.Intn(runes+1))
			e := drawnEdit(r, text, min(runes+1, 20))
			wantTakenBack(t, text, e)
		}
	}
	for _, n := range []int{0, 1, 4095, 4096} {
		text := strings.Repeat("a", n)
		wantTakenBack(t, text, a(0, text, ""))
		wantTakenBack(t, text, a(n, "", strings.Repeat("b", 4096-n)))
		wantTakenBack(t, text, a(n/2, text[n/2:], strings.Repeat("b", 4096-n/2)))
		wantTakenBack(t, "", a(0, "", text))
	}
}

func TestAllEditsOfShortTextsAreTakenBack(t *testing.T) { // P21.3
	some := made([]string{"a", two, three}, 2)
	for _, text := range made([]string{"a", "b", two, four}, 3) {
		l := edges(text)
		for i, from := range l {
			for _, to := range l[i:] {
				for _, new := range some {
					wantTakenBack(t, text, a(from, text[from:to], new))
				}
			}
		}
	}
}

func TestManyEditsAreTakenBackOneByOne(t *testing.T) { // P21.3
	r := rand.New(rand.NewSource(214))
	text := drawn(r, 100)
	var texts []string
	var l []api.Edit
	for range 300 {
		e := drawnEdit(r, text, 10)
		s, err := Apply(text, e)
		if err != api.OK {
			t.Fatalf("Apply(%.40q, %s): %s", text, told(e), api.Text(err))
		}
		texts, l, text = append(texts, text), append(l, e), s
	}
	for i := len(l) - 1; i >= 0; i-- {
		wantApply(t, text, Inverse(l[i]), texts[i], api.OK)
		text = texts[i]
	}
}

func TestEveryCallTellsTheSameAgain(t *testing.T) { // P1, R1, R4
	some := []string{"", "a", "ab", two, three[1:], "\xff", strings.Repeat("a", 4096), strings.Repeat("a", 4097)}
	for _, text := range some {
		for _, at := range append([]int{0, 1, 2, 4096, 4097}, ends...) {
			for _, old := range some {
				for _, new := range some {
					e := a(at, old, new)
					s, err := Apply(text, e)
					wantApply(t, strings.Clone(text), a(at, strings.Clone(old), strings.Clone(new)), s, err)
					if Inverse(e) != Inverse(e) || Shift(e, len(text)) != Shift(e, len(text)) {
						t.Fatalf("%s is not the same again", told(e))
					}
				}
			}
		}
	}
}
