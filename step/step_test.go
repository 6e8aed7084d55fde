package step

import (
	"fmt"
	"math"
	"math/rand"
	"slices"
	"strings"
	"testing"
	"unicode/utf8"

	"stylus/api"
	"stylus/edit"
)

// Runes of two to four bytes.
const (
	two   = "\u00e9"
	three = "\u20ac"
	four  = "\U0001f600"
)

// ends are numbers at the ends of ints, and around what a text may have.
var ends = []int{math.MinInt, math.MinInt + 1, math.MinInt + 3, -1 << 32, -4097, -2, -1, 0, 1, 2, 3, 4095, 4096, 4097, 1 << 31, 1 << 32, math.MaxInt - 3, math.MaxInt - 1, math.MaxInt}

// a is an edit, in one word.
func a(at int, old, new string) api.Edit { return api.Edit{At: at, Old: old, New: new} }

// step is those edits, in one word.
func step(l ...api.Edit) api.Step { return api.Step{Edits: l} }

// told is a step as text, cut short.
func told(s api.Step) string {
	var b strings.Builder
	for _, e := range s.Edits[:min(len(s.Edits), 40)] {
		fmt.Fprintf(&b, "{%d %.20q %.20q}", e.At, e.Old, e.New)
	}
	return fmt.Sprintf("%d edits %s", len(s.Edits), b.String())
}

// many are so many edits, no two the same, that put letters at a text's begin.
func many(n int) api.Step {
	var s api.Step
	for i := range n {
		s.Edits = append(s.Edits, a(0, "", letters(i)))
	}
	return s
}

// letters is a text of its own for each number below 676.
func letters(n int) string { return string([]byte{byte('a' + n/26), byte('a' + n%26)}) }

// drawn is a valid text of so many drawn runes of all sizes.
func drawn(r *rand.Rand, runes int) string {
	some := []string{"a", "b", "\n", "\x00", "\ufffd", two, three, four}
	var s strings.Builder
	for range runes {
		s.WriteString(some[r.Intn(len(some))])
	}
	return s.String()
}

// edges are all places of a valid text at which no rune is cut.
func edges(s string) []int {
	var l []int
	for at := range s {
		l = append(l, at)
	}
	return append(l, len(s))
}

// drawnEdit is an edit that puts up to so many runes in the place of what stands between two edges of a valid text.
func drawnEdit(r *rand.Rand, s string, runes int) api.Edit {
	l := edges(s)
	i := r.Intn(len(l))
	j := min(len(l)-1, i+r.Intn(runes+1))
	return a(l[i], s[l[i]:l[j]], drawn(r, r.Intn(runes+1)))
}

// drawnStep is a step of so many drawn edits that can be run on a valid text, and the texts that it makes, one by one.
func drawnStep(t *testing.T, r *rand.Rand, text string, edits, runes int) (api.Step, []string) {
	t.Helper()
	s, texts := api.Step{}, []string{text}
	for range edits {
		e := drawnEdit(r, text, runes)
		text = text[:e.At] + e.New + text[e.At+len(e.Old):]
		if len(text) > 4096 {
			t.Fatalf("the texts that are drawn are too long: %d bytes", len(text))
		}
		s.Edits, texts = append(s.Edits, e), append(texts, text)
	}
	return s, texts
}

// kept hands out a step in a room that has more edits behind its end, and looks at whether a call changed any of it.
func kept(t *testing.T, s api.Step) (api.Step, func()) {
	t.Helper()
	room := append(slices.Clone(s.Edits), a(7, "behind", ""), a(8, "", "further"))
	was := slices.Clone(room)
	return step(room[:len(s.Edits)]...), func() {
		t.Helper()
		if !slices.Equal(room, was) {
			t.Fatalf("what was handed in is changed: %v, was %v", room, was)
		}
	}
}

// wantOwn looks at whether an answer, with its spare room, is memory that the argument has nothing of.
func wantOwn(t *testing.T, s, got api.Step) {
	t.Helper()
	room := s.Edits[:cap(s.Edits)]
	before, all := slices.Clone(room), got.Edits[:cap(got.Edits)]
	was := slices.Clone(all)
	for i := range all {
		all[i] = a(-5, "changed", "changed")
	}
	if !slices.Equal(room, before) {
		t.Fatalf("an answer shares memory with %s", told(s))
	}
	copy(all, was)
}

// wantStep holds an answer against a step; nil and empty lists are the same.
func wantStep(t *testing.T, what string, got, want api.Step) {
	t.Helper()
	if !slices.Equal(got.Edits, want.Edits) {
		t.Fatalf("%s: %s, want %s", what, told(got), told(want))
	}
}

// wantRun holds Run against what it is to tell, and Right, too.
func wantRun(t *testing.T, text string, s api.Step, want string, wrong api.Errno) {
	t.Helper()
	s, look := kept(t, s)
	got, err := Run(text, s)
	if got != want || err != wrong {
		t.Fatalf("Run(%.40q, %s): %.40q, %s, want %.40q, %s", text, told(s), got, api.Text(err), want, api.Text(wrong))
	}
	look()
	n := len(s.Edits)
	if is := Right(text, s); is != (n >= 1 && n <= 32 && wrong == api.OK) {
		t.Fatalf("Right(%.40q, %s): %v, but Run tells %s", text, told(s), is, api.Text(wrong))
	}
	look()
}

// wantInverse holds Inverse against a step.
func wantInverse(t *testing.T, s, want api.Step) {
	t.Helper()
	s, look := kept(t, s)
	got := Inverse(s)
	wantStep(t, fmt.Sprintf("Inverse(%s)", told(s)), got, want)
	look()
	wantOwn(t, s, got)
}

// wantShift holds Shift against a place.
func wantShift(t *testing.T, s api.Step, at, want int) {
	t.Helper()
	s, look := kept(t, s)
	if got := Shift(s, at); got != want {
		t.Fatalf("Shift(%s, %d): %d, want %d", told(s), at, got, want)
	}
	look()
}

// wantAdd holds Add against a step, or an error and none beside it.
func wantAdd(t *testing.T, s api.Step, e api.Edit, want api.Step, wrong api.Errno) {
	t.Helper()
	s, look := kept(t, s)
	got, err := Add(s, e)
	if err != wrong {
		t.Fatalf("Add(%s, %v): %s, want %s", told(s), e, api.Text(err), api.Text(wrong))
	}
	wantStep(t, fmt.Sprintf("Add(%s, %v)", told(s), e), got, want)
	look()
	wantOwn(t, s, got)
}

// run is the chapter's rule of Run, spelt out: the last edit does to the text what it does, if those ahead of it made one.
func run(text string, l []api.Edit) (string, api.Errno) {
	if len(l) == 0 {
		return text, api.OK
	}
	last := len(l) - 1
	made, err := run(text, l[:last])
	if err != api.OK {
		return "", err
	}
	return edit.Apply(made, l[last])
}

// inverse is the chapter's rule of Inverse, spelt out: the last one's goes ahead of those of all others.
func inverse(l []api.Edit) []api.Edit {
	if len(l) == 0 {
		return nil
	}
	last := len(l) - 1
	return append([]api.Edit{a(l[last].At, l[last].New, l[last].Old)}, inverse(l[:last])...)
}

// shift is the chapter's rule of Shift, spelt out: the last edit shifts where those ahead of it brought the mark.
func shift(l []api.Edit, at int) int {
	if len(l) == 0 {
		return at
	}
	last := len(l) - 1
	return edit.Shift(l[last], shift(l[:last], at))
}

func TestTheExample(t *testing.T) { // P23.1
	wantInverse(t, step(a(0, "", "a"), a(1, "", "b")), step(a(1, "b", ""), a(0, "a", "")))
}

func TestRunOfSomeSteps(t *testing.T) { // P23.1
	for _, x := range []struct {
		text string
		s    api.Step
		want string
	}{
		{"", step(a(0, "", "")), ""},
		{"", step(a(0, "", "a"), a(1, "", "b")), "ab"},
		{"", step(a(0, "", "b"), a(0, "", "a")), "ab"},
		{"ab", step(a(1, "b", "")), "a"},
		{"ab", step(a(0, "ab", ""), a(0, "", "xyz")), "xyz"},
		// each is applied to what the one ahead made, not to the text
		{"ab", step(a(0, "", "xx"), a(2, "a", "")), "xxb"},
		{"ab", step(a(0, "a", ""), a(0, "b", "")), ""},
		{"aab", step(a(0, "aa", "a"), a(1, "b", "c"), a(0, "ac", "d")), "d"},
		{"", step(a(0, "", "a"), a(0, "a", "b"), a(0, "b", "c"), a(0, "c", "d")), "d"},
		// the same one again
		{"aaa", step(a(0, "a", ""), a(0, "a", ""), a(0, "a", "")), ""},
		{"", step(a(0, "", "a"), a(0, "", "a"), a(0, "", "a")), "aaa"},
		// in order
		{"a", step(a(0, "a", "b"), a(0, "b", "c")), "c"},
		{"a" + three + "b", step(a(1, three, four), a(5, "b", two), a(0, "a", "")), four + two},
		{"a\nb", step(a(1, "\n", "\x00"), a(3, "", "\n")), "a\x00b\n"},
	} {
		wantRun(t, x.text, x.s, x.want, api.OK)
	}
}

func TestRunOfNoEdits(t *testing.T) { // P23.1, R1, R3
	// of the text alone nothing is asked
	for _, text := range []string{"", "a", three, "\xff", "\xe2\x82", strings.Repeat("a", 4096), strings.Repeat("a", 5000)} {
		wantRun(t, text, api.Step{}, text, api.OK)
		wantRun(t, text, step([]api.Edit{}...), text, api.OK)
		if Right(text, api.Step{}) || Right(text, api.Step{Edits: []api.Edit{}}) {
			t.Errorf("a step without edits is right for %.40q", text)
		}
	}
}

func TestRunTellsEachErrorOfItsEdits(t *testing.T) { // P23.1
	long := strings.Repeat("a", 4097)
	good := a(0, "", "b")
	for _, x := range []struct {
		text string
		e    api.Edit // behind b at the text's begin
		err  api.Errno
	}{
		{"a", a(-1, "", "x"), api.ErrRange},
		{"a", a(3, "", "x"), api.ErrRange},
		{"a", a(math.MinInt, "", "x"), api.ErrRange},
		{"a", a(math.MaxInt, "a", ""), api.ErrRange},
		{"a", a(0, "a", ""), api.ErrNone},
		{"a", a(1, "aa", ""), api.ErrNone},
		{three, a(2, "", "x"), api.ErrSplit},
		{three, a(1, three[:2], ""), api.ErrSplit},
		{"a", a(1, "a", "\xff"), api.ErrForm},
		{"\xff", a(1, "\xff", ""), api.ErrForm},
		{"a", a(0, "", long), api.ErrLong},
		{long[2:], a(0, "", "xx"), api.ErrLong},
	} {
		wantRun(t, x.text, step(good, x.e), "", x.err)
		wantRun(t, "b"+x.text, step(x.e), "", x.err)
		wantRun(t, "b"+x.text, step(x.e, good), "", x.err)
		wantRun(t, x.text, step(good, x.e, good), "", x.err)
	}
}

func TestRunTellsTheFirstErrorAlone(t *testing.T) { // P23.1, P1, R2
	wrong := []struct {
		e   api.Edit
		err api.Errno
	}{
		{a(-1, "", ""), api.ErrRange},
		{a(0, "x", ""), api.ErrNone},
		{a(1, "", ""), api.ErrSplit},
		{a(0, "", "\xff"), api.ErrForm},
		{a(0, "", strings.Repeat("a", 4097)), api.ErrLong},
	}
	for _, x := range wrong {
		for _, y := range wrong {
			wantRun(t, two, step(x.e, y.e), "", x.err)
			wantRun(t, two, step(a(2, "", "b"), x.e, y.e), "", x.err)
			wantRun(t, two, step(x.e, a(2, "", "b"), y.e), "", x.err)
		}
	}
	// what a later edit would mend is wrong still
	wantRun(t, "a", step(a(0, "b", ""), a(0, "", "b")), "", api.ErrNone)
	wantRun(t, "a", step(a(1, "", strings.Repeat("a", 4096)), a(0, "a", "")), "", api.ErrLong)
	// what the edit ahead made can't be done again, or not any more
	wantRun(t, "a", step(a(0, "a", ""), a(0, "a", "")), "", api.ErrNone)
	wantRun(t, "ab", step(a(0, "ab", ""), a(1, "", "x")), "", api.ErrRange)
	wantRun(t, "a", step(a(0, "a", three), a(1, "", "x")), "", api.ErrSplit)
}

func TestRunUpToTheLongestText(t *testing.T) { // P23.1
	s := func(n int) string { return strings.Repeat("a", n) }
	wantRun(t, s(4095), step(a(0, "", "a")), s(4096), api.OK)
	wantRun(t, s(4096), step(a(0, "", "a")), "", api.ErrLong)
	wantRun(t, s(4096), step(a(0, "a", ""), a(0, "", "a")), s(4096), api.OK)
	wantRun(t, s(4096), step(a(0, "", "a"), a(0, "a", "")), "", api.ErrLong)
	wantRun(t, s(4090), step(a(0, "", "aaa"), a(0, "", "aaa")), s(4096), api.OK)
	wantRun(t, s(4090), step(a(0, "", "aaa"), a(0, "", "aaa"), a(0, "", "a")), "", api.ErrLong)
	// a text that is too long is not, once the first edit made it short enough
	wantRun(t, s(4100), step(a(0, "aaaa", ""), a(0, "", "")), s(4096), api.OK)
	wantRun(t, s(4100), step(a(0, "aaa", ""), a(0, "a", "")), "", api.ErrLong)
}

func TestRunAndRightCountEdits(t *testing.T) { // P23.1
	for _, n := range []int{0, 1, 2, 31, 32, 33, 34, 64, 300} {
		want := ""
		for i := range n {
			want = letters(i) + want
		}
		// Run does them however many there are; wantRun asks Right.
		wantRun(t, "", many(n), want, api.OK)
		if got := Right("", many(n)); got != (n >= 1 && n <= 32) {
			t.Errorf("Right of %d edits: %v", n, got)
		}
		// The last one is looked at as the first one is.
		for i := range n {
			s := many(n)
			s.Edits[i].At = -1
			wantRun(t, "", s, "", api.ErrRange)
		}
	}
}

func TestRunOfAllShortSteps(t *testing.T) { // P23.1
	var all []api.Edit
	for at := -1; at < 4; at++ {
		for _, old := range []string{"", "a", two, "\xa9"} {
			for _, new := range []string{"", "a", two, "\xc3"} {
				all = append(all, a(at, old, new))
			}
		}
	}
	for _, text := range []string{"", "a", "aa", two, "a" + two, two + "a", "\xa9", "\xc3a"} {
		for _, x := range all {
			for _, y := range all {
				want, err := run(text, []api.Edit{x, y})
				wantRun(t, text, step(x, y), want, err)
			}
		}
	}
}

func TestRunOfDrawnSteps(t *testing.T) { // P23.1
	r := rand.New(rand.NewSource(23))
	yes := 0
	for range 5000 {
		text := drawn(r, r.Intn(30))
		s, _ := drawnStep(t, r, text, r.Intn(35), 6)
		if n := len(s.Edits); n > 0 && r.Intn(2) == 0 {
			switch e := &s.Edits[r.Intn(n)]; r.Intn(4) {
			case 0:
				e.At += r.Intn(5) - 2
			case 1:
				e.Old += "a"
			case 2:
				e.New += "\xf0\x9f"
			case 3:
				e.New += strings.Repeat("a", 4097)
			}
		}
		want, err := run(text, s.Edits)
		if err == api.OK {
			yes++
		}
		wantRun(t, text, s, want, err)
	}
	if yes < 1000 || yes > 4000 {
		t.Errorf("%d steps of 5000 were run", yes)
	}
}

func TestInverseOfSomeSteps(t *testing.T) { // P23.1
	for _, x := range []struct{ s, want api.Step }{
		{api.Step{}, api.Step{}},
		{step([]api.Edit{}...), api.Step{}},
		{step(a(1, "b", "cd")), step(a(1, "cd", "b"))},
		{step(a(0, "", "")), step(a(0, "", ""))},
		{step(a(0, "a", "b"), a(1, "c", "d")), step(a(1, "d", "c"), a(0, "b", "a"))},
		{step(a(0, "a", "b"), a(1, "c", "d"), a(2, "e", "f")), step(a(2, "f", "e"), a(1, "d", "c"), a(0, "b", "a"))},
		// edits that no text takes have one, too
		{step(a(-1, "\xff", "a"), a(math.MaxInt, "", "\xfe")), step(a(math.MaxInt, "\xfe", ""), a(-1, "a", "\xff"))},
		{step(a(math.MinInt, "x", "")), step(a(math.MinInt, "", "x"))},
	} {
		wantInverse(t, x.s, x.want)
	}
	for _, n := range []int{3, 31, 32, 33, 500} {
		wantInverse(t, many(n), step(inverse(many(n).Edits)...))
	}
}

func TestTheInverseOfTheInverseIsTheStep(t *testing.T) { // P23.1
	r := rand.New(rand.NewSource(231))
	for range 500 {
		s, _ := drawnStep(t, r, drawn(r, r.Intn(30)), r.Intn(40), 5)
		wantInverse(t, s, step(inverse(s.Edits)...))
		wantInverse(t, Inverse(s), s)
	}
}

func TestShiftOfSomeSteps(t *testing.T) { // P23.1
	both := step(a(3, "", "xy"), a(0, "abcd", ""))
	for _, x := range []struct {
		s        api.Step
		at, want int
	}{
		{api.Step{}, 5, 5},
		{step([]api.Edit{}...), 0, 0},
		{step(a(3, "", "xy")), 3, 3},
		{step(a(3, "", "xy")), 4, 6},
		// each shifts what the one ahead told
		{both, 0, 0},
		{both, 3, 0},
		{both, 4, 2},
		{both, 9, 7},
		{step(a(0, "", "xy"), a(0, "", "xy")), 1, 5},
		{step(a(0, "", "xy"), a(0, "", "xy")), 0, 0},
		// in order
		{step(a(5, "", "x"), a(0, "", "abc")), 3, 6},
		{step(a(0, "", "abc"), a(5, "", "x")), 3, 7},
		{step(a(0, "ab", ""), a(0, "", "ab")), 1, 0},
		{step(a(0, "", "ab"), a(0, "ab", "")), 1, 1},
		{step(a(1, "a", "bcd"), a(4, "e", "")), 5, 6},
		// a mark that went to a place with others comes to stand where they do
		{step(a(2, "abc", ""), a(2, "", "abc")), 4, 2},
		{step(a(2, "abc", ""), a(2, "", "abc")), 5, 2},
		{step(a(2, "abc", ""), a(2, "", "abc")), 6, 6},
		// places that no text has, and edits that none takes
		{step(a(-3, "", "\xff"), a(-9, "", "x")), -2, 0},
		{step(a(9, "a", "")), -7, -7},
	} {
		wantShift(t, x.s, x.at, x.want)
	}
	for _, n := range []int{31, 32, 33, 500} {
		wantShift(t, many(n), 1, 1+2*n)
		wantShift(t, many(n), 0, 0)
	}
}

func TestShiftAtTheEndsOfInts(t *testing.T) { // P23.1, R1, R6
	var all []api.Edit
	for _, at := range ends {
		all = append(all, a(at, "", "xyz"), a(at, "ab", ""), a(at, "ab", "x"))
	}
	for _, x := range all {
		for _, y := range all {
			for _, at := range ends {
				wantShift(t, step(x, y), at, shift([]api.Edit{x, y}, at))
			}
		}
	}
}

func TestShiftOfDrawnSteps(t *testing.T) { // P23.1
	r := rand.New(rand.NewSource(232))
	for range 1000 {
		text := drawn(r, r.Intn(30))
		s, texts := drawnStep(t, r, text, r.Intn(35), 5)
		last := texts[len(texts)-1]
		for at := -2; at < len(text)+3; at++ {
			wantShift(t, s, at, shift(s.Edits, at))
		}
		// A mark at an edge comes to stand at one.
		for _, at := range edges(text) {
			if to := Shift(s, at); !slices.Contains(edges(last), to) {
				t.Fatalf("Shift(%s, %d) of %.40q: %d, which is no edge of %.40q", told(s), at, text, to, last)
			}
		}
	}
}

func TestAddOfSomeEdits(t *testing.T) { // P23.2
	wantAdd(t, api.Step{}, a(0, "", "a"), step(a(0, "", "a")), api.OK)
	wantAdd(t, step([]api.Edit{}...), a(0, "", "a"), step(a(0, "", "a")), api.OK)
	wantAdd(t, step(a(0, "", "a")), a(1, "", "b"), step(a(0, "", "a"), a(1, "", "b")), api.OK)
	wantAdd(t, step(a(0, "", "a")), a(0, "", "a"), step(a(0, "", "a"), a(0, "", "a")), api.OK)
	// whether any text takes them is not asked
	for _, at := range ends {
		for _, s := range []string{"", "x", "\xff", strings.Repeat("a", 5000)} {
			wantAdd(t, step(a(at, s, "")), a(at, "", s), step(a(at, s, ""), a(at, "", s)), api.OK)
		}
	}
}

func TestAddCountsEdits(t *testing.T) { // P23.2
	for n := range 70 {
		e := a(n, "old", "new")
		if n < 32 {
			wantAdd(t, many(n), e, step(append(many(n).Edits, e)...), api.OK)
		} else {
			wantAdd(t, many(n), e, api.Step{}, api.ErrMany)
		}
	}
	wantAdd(t, many(600), a(0, "", ""), api.Step{}, api.ErrMany)
	// what can't be done counts, too
	bad := step(slices.Repeat([]api.Edit{a(-1, "\xff", "")}, 32)...)
	wantAdd(t, bad, a(-1, "", "\xff"), api.Step{}, api.ErrMany)
	wantAdd(t, step(bad.Edits[1:]...), a(-1, "", "\xff"), step(append(slices.Clone(bad.Edits[1:]), a(-1, "", "\xff"))...), api.OK)
}

func TestEditsAddedToOneStepDoNotMeet(t *testing.T) { // P23.2, R3
	first := api.Step{}
	for i := range 31 {
		one, err := Add(first, a(i, "", "x"))
		other, wrong := Add(first, a(i, "", "y"))
		if err != api.OK || wrong != api.OK || one.Edits[i].New != "x" || other.Edits[i].New != "y" {
			t.Fatalf("behind %d edits: %s, %s; %s, %s", i, told(one), api.Text(err), told(other), api.Text(wrong))
		}
		if len(first.Edits) != i {
			t.Fatalf("the step has %d edits, had %d", len(first.Edits), i)
		}
		wantOwn(t, one, other)
		first = one
	}
}

func TestStepsPutTogetherByAdd(t *testing.T) { // P23.1, P23.2
	r := rand.New(rand.NewSource(233))
	for range 300 {
		text := drawn(r, r.Intn(30))
		want, texts := drawnStep(t, r, text, 32, 5)
		s := api.Step{}
		for i, e := range want.Edits {
			wantAdd(t, s, e, step(want.Edits[:i+1]...), api.OK)
			s, _ = Add(s, e)
			wantRun(t, text, s, texts[i+1], api.OK)
		}
		wantAdd(t, s, a(0, "", ""), api.Step{}, api.ErrMany)
	}
}

// wantTakenBack runs a step on a valid text, and takes it back.
func wantTakenBack(t *testing.T, text string, s api.Step) {
	t.Helper()
	made, err := Run(text, s)
	if err != api.OK || !utf8.ValidString(made) {
		t.Fatalf("Run(%.40q, %s): %.40q, %s", text, told(s), made, api.Text(err))
	}
	wantRun(t, made, Inverse(s), text, api.OK)
	// and that is taken back by the step
	wantRun(t, text, Inverse(Inverse(s)), made, api.OK)
}

func TestWhatWasRunIsTakenBack(t *testing.T) { // P23.3
	r := rand.New(rand.NewSource(234))
	for _, runes := range []int{0, 1, 3, 30, 600} {
		for range 300 {
			text := drawn(r, r.Intn(runes+1))
			s, _ := drawnStep(t, r, text, r.Intn(35), min(runes+1, 15))
			wantTakenBack(t, text, s)
		}
	}
	wantTakenBack(t, "ab", step(a(1, "b", ""), a(0, "a", "")))
	wantTakenBack(t, "", step(a(0, "", "b"), a(0, "", "a")))
	wantTakenBack(t, "", many(32))
	wantTakenBack(t, "", many(300))
}

func TestLongTextsAreTakenBack(t *testing.T) { // P23.3
	for _, n := range []int{0, 1, 4095, 4096} {
		text := strings.Repeat("a", n)
		full := strings.Repeat("b", 4096)
		wantTakenBack(t, text, step(a(0, text, ""), a(0, "", full), a(0, full, text)))
		wantTakenBack(t, text, step(a(n, "", full[n:]), a(0, text, ""), a(0, "", text)))
	}
}

func TestAllShortStepsAreTakenBack(t *testing.T) { // P23.3
	texts := []string{"", "a", "b", two, "a" + two, two + "a", "aba"}
	var all [][2]string
	for _, from := range texts {
		for _, to := range texts {
			all = append(all, [2]string{from, to})
		}
	}
	for _, text := range texts {
		for _, x := range all {
			for _, y := range all {
				for at := range 2 {
					s := step(a(0, x[0], x[1]), a(at, y[0], y[1]))
					if Right(text, s) {
						wantTakenBack(t, text, s)
					}
				}
			}
		}
	}
}

func TestEveryCallTellsTheSameAgain(t *testing.T) { // P1, R1, R3, R4
	some := []string{"", "a", two, three[1:], "\xff", strings.Repeat("a", 4097)}
	for _, text := range some {
		for _, at := range ends {
			for _, old := range some {
				for _, new := range some {
					s := step(a(0, "", "a"), a(at, old, new))
					made, err := run(text, s.Edits)
					for range 2 {
						wantRun(t, strings.Clone(text), s, made, err)
						wantInverse(t, s, step(inverse(s.Edits)...))
						wantShift(t, s, at, shift(s.Edits, at))
						wantAdd(t, s, s.Edits[0], step(s.Edits[0], s.Edits[1], s.Edits[0]), api.OK)
					}
				}
			}
		}
	}
}
