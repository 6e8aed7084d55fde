package stack

import (
	"fmt"
	"math"
	"math/rand"
	"slices"
	"strings"
	"testing"
	"unicode/utf8"

	"stylus/api"
	"stylus/edit"
	"stylus/step"
)

// Runes of two to four bytes.
const (
	two   = "\u00e9"
	three = "\u20ac"
	four  = "\U0001f600"
)

// ends are numbers at the ends of ints, and around what a text may have.
var ends = []int{math.MinInt, math.MinInt + 1, -4097, -1, 0, 1, 2, 4095, 4096, 4097, 1 << 32, math.MaxInt - 1, math.MaxInt}

// a is an edit, in one word.
func a(at int, old, new string) api.Edit { return api.Edit{At: at, Old: old, New: new} }

// of is a step of those edits, in one word.
func of(l ...api.Edit) api.Step { return api.Step{Edits: l} }

// lay are those steps, in one word.
func lay(l ...api.Step) []api.Step { return l }

// told are steps as text, cut short.
func told(l ...api.Step) string {
	var b strings.Builder
	for _, s := range l[:min(len(l), 20)] {
		fmt.Fprintf(&b, " [%d:", len(s.Edits))
		for _, e := range s.Edits[:min(len(s.Edits), 4)] {
			fmt.Fprintf(&b, " %d %.20q %.20q", e.At, e.Old, e.New)
		}
		b.WriteString("]")
	}
	return fmt.Sprintf("%d steps%s", len(l), b.String())
}

// letters is a text of its own for each number below 676.
func letters(n int) string { return string([]byte{byte('a' + n/26), byte('a' + n%26)}) }

// many are so many steps, no two the same: each puts letters at a text's begin, and has one to three edits.
func many(n int) []api.Step {
	var l []api.Step
	for i := range n {
		s := of(a(0, "", letters(i)))
		for range i % 3 {
			s.Edits = append(s.Edits, a(0, "", "x"))
		}
		l = append(l, s)
	}
	return l
}

// wide is a step of so many edits that put letters at a text's begin.
func wide(n int) api.Step {
	var s api.Step
	for i := range n {
		s.Edits = append(s.Edits, a(0, "", letters(i)))
	}
	return s
}

// drawn is a valid text of so many drawn runes of all sizes.
func drawn(r *rand.Rand, runes int) string {
	some := []string{"a", "b", "\n", "\x00", "\ufffd", two, three, four}
	var s strings.Builder
	for range runes {
		s.WriteString(some[r.Intn(len(some))])
	}
	return s.String()
}

// drawnStep is a step of so many edits that can be run on a valid text, and what it makes of that.
func drawnStep(r *rand.Rand, text string, edits int) (api.Step, string) {
	s := api.Step{}
	for range edits {
		var l []int
		for at := range text {
			l = append(l, at)
		}
		l = append(l, len(text))
		i := r.Intn(len(l))
		j := min(len(l)-1, i+r.Intn(4))
		e := a(l[i], text[l[i]:l[j]], drawn(r, r.Intn(4)))
		s.Edits = append(s.Edits, e)
		text = text[:l[i]] + e.New + text[l[j]:]
	}
	return s, text
}

// sameStep holds two steps against each other; nil and empty lists are the same.
func sameStep(x, y api.Step) bool { return slices.Equal(x.Edits, y.Edits) }

// same holds two stacks against each other, likewise.
func same(x, y []api.Step) bool { return slices.EqualFunc(x, y, sameStep) }

// deep is a copy that shares nothing.
func deep(l []api.Step) []api.Step {
	var c []api.Step
	for _, s := range l {
		c = append(c, of(slices.Clone(s.Edits)...))
	}
	return c
}

// roomy is a stack in a room that has more steps behind its end, each of its steps in a room that has more edits; the room is told, too.
func roomy(l []api.Step) ([]api.Step, []api.Step) {
	var room []api.Step
	for _, s := range l {
		room = append(room, roomyStep(s))
	}
	room = append(room, of(a(7, "behind", "")), of(a(8, "", "further")))
	return room[:len(l)], room
}

// roomyStep is a step in such a room.
func roomyStep(s api.Step) api.Step {
	room := append(slices.Clone(s.Edits), a(9, "behind", ""), a(10, "", "further"))
	return of(room[:len(s.Edits)]...)
}

// whole are steps with the rooms behind their edits' ends.
func whole(l []api.Step) []api.Step {
	c := slices.Clone(l)
	for i, s := range c {
		c[i].Edits = s.Edits[:cap(s.Edits)]
	}
	return c
}

// wantOwn overwrites one list of an answer after the other, with its spare room, and looks at whether any other list changes with it.
func wantOwn(t *testing.T, what string, handed, answer []api.Step) {
	t.Helper()
	all := append(whole(handed), whole(answer)...)
	was := deep(all)
	for i := len(handed); i < len(all); i++ {
		for j := range all[i].Edits {
			all[i].Edits[j] = a(-5, "changed", "changed")
		}
		for j := range all {
			if j != i && !sameStep(all[j], was[j]) {
				t.Fatalf("%s: list %d shares memory with list %d of the answer", what, j, i-len(handed))
			}
		}
		copy(all[i].Edits, was[i].Edits)
	}
}

// wantOwnRow looks at whether an answer's row of steps, with its spare room, is memory that what was handed in has nothing of.
func wantOwnRow(t *testing.T, what string, handed, answer []api.Step) {
	t.Helper()
	was, row := deep(handed), answer[:cap(answer)]
	kept := slices.Clone(row)
	for i := range row {
		row[i] = of(a(-6, "changed", ""))
	}
	if !same(handed, was) {
		t.Fatalf("%s: the answer's row lies in what was handed in", what)
	}
	copy(row, kept)
}

// wantPush holds Push against a stack.
func wantPush(t *testing.T, l []api.Step, s api.Step, want []api.Step) {
	t.Helper()
	what := fmt.Sprintf("Push(%s,%s)", told(l...), told(s))
	l, room := roomy(l)
	s = roomyStep(s)
	all := append(slices.Clone(room), s)
	was := deep(whole(all))
	got := Push(l, s)
	if !same(got, want) {
		t.Fatalf("%s: %s, want %s", what, told(got...), told(want...))
	}
	if !same(whole(all), was) || !same(room, all[:len(room)]) {
		t.Fatalf("%s: what was handed in is changed", what)
	}
	wantOwnRow(t, what, room, got)
	wantOwn(t, what, all, got)
}

// wantPop holds Pop against a stack and a step, or an error and none of both beside it.
func wantPop(t *testing.T, l, want []api.Step, top api.Step, wrong api.Errno) {
	t.Helper()
	what := fmt.Sprintf("Pop(%s)", told(l...))
	l, room := roomy(l)
	was := deep(whole(room))
	got, s, err := Pop(l)
	if !same(got, want) || !sameStep(s, top) || err != wrong {
		t.Fatalf("%s: %s, %s, %s, want %s, %s, %s", what, told(got...), told(s), api.Text(err), told(want...), told(top), api.Text(wrong))
	}
	if !same(whole(room), was) {
		t.Fatalf("%s: what was handed in is changed", what)
	}
	wantOwnRow(t, what, room, got)
	wantOwn(t, what, room, append(slices.Clone(got), s))
}

// wantDepth holds Depth against a number.
func wantDepth(t *testing.T, l []api.Step, want int) {
	t.Helper()
	l, room := roomy(l)
	was := deep(whole(room))
	if got := Depth(l); got != want {
		t.Fatalf("Depth(%s): %d, want %d", told(l...), got, want)
	}
	if !same(whole(room), was) {
		t.Fatalf("Depth(%s): what was handed in is changed", told(l...))
	}
}

// wantGoes holds Undoes and Redoes against what they are to tell.
func wantGoes(t *testing.T, text string, l []api.Step, undoes, redoes bool) {
	t.Helper()
	l, room := roomy(l)
	was := deep(whole(room))
	if got := Undoes(text, l); got != undoes {
		t.Fatalf("Undoes(%.40q, %s): %v", text, told(l...), got)
	}
	if got := Redoes(text, l); got != redoes {
		t.Fatalf("Redoes(%.40q, %s): %v", text, told(l...), got)
	}
	if !same(whole(room), was) {
		t.Fatalf("Undoes and Redoes of %s: what was handed in is changed", told(l...))
	}
}

// undoes is the chapter's rule of Undoes, spelt out edit by edit, each looked at as the one that takes it back.
func undoes(text string, l []api.Step) bool {
	if len(l) > 16 {
		return false
	}
	for i := len(l) - 1; i >= 0; i-- {
		edits := l[i].Edits
		if len(edits) == 0 || len(edits) > 32 {
			return false
		}
		for j := len(edits) - 1; j >= 0; j-- {
			made, err := edit.Apply(text, a(edits[j].At, edits[j].New, edits[j].Old))
			if err != api.OK {
				return false
			}
			text = made
		}
	}
	return true
}

// redoes is the chapter's rule of Redoes, spelt out likewise.
func redoes(text string, l []api.Step) bool {
	if len(l) > 16 {
		return false
	}
	for i := len(l) - 1; i >= 0; i-- {
		edits := l[i].Edits
		if len(edits) == 0 || len(edits) > 32 {
			return false
		}
		for _, e := range edits {
			made, err := edit.Apply(text, e)
			if err != api.OK {
				return false
			}
			text = made
		}
	}
	return true
}

func TestPushOfSomeSteps(t *testing.T) { // P24.1
	x, y := of(a(0, "", "a")), of(a(1, "", "b"), a(2, "", "c"))
	wantPush(t, nil, x, lay(x))
	wantPush(t, lay(), x, lay(x))
	wantPush(t, lay(x), y, lay(x, y))
	wantPush(t, lay(y), x, lay(y, x))
	wantPush(t, lay(x), x, lay(x, x))
	wantPush(t, lay(x, y), x, lay(x, y, x))
	// steps that can't be run are pushed, too
	for _, s := range lay(api.Step{}, of([]api.Edit{}...), wide(33), wide(500), of(a(-1, "\xff", "\xfe")), of(a(math.MaxInt, "", strings.Repeat("a", 5000)))) {
		wantPush(t, nil, s, lay(s))
		wantPush(t, lay(s, x), s, lay(s, x, s))
	}
}

func TestPushKeepsTheLastSixteen(t *testing.T) { // P24.1
	for _, n := range []int{0, 1, 2, 14, 15, 16, 17, 18, 31, 32, 100, 600} {
		all := many(n + 1)
		wantPush(t, all[:n], all[n], all[max(0, n+1-16):])
	}
	// steps without edits count, too
	none := slices.Repeat(lay(api.Step{}), 16)
	wantPush(t, none, of(a(0, "", "a")), append(deep(none[1:]), of(a(0, "", "a"))))
}

func TestPopOfSomeStacks(t *testing.T) { // P24.1
	wantPop(t, nil, nil, api.Step{}, api.ErrEmpty)
	wantPop(t, lay(), nil, api.Step{}, api.ErrEmpty)
	x, y := of(a(0, "", "a")), of(a(1, "", "b"), a(2, "", "c"))
	wantPop(t, lay(x), nil, x, api.OK)
	wantPop(t, lay(x, y), lay(x), y, api.OK)
	wantPop(t, lay(y, x), lay(y), x, api.OK)
	wantPop(t, lay(x, y, x), lay(x, y), x, api.OK)
	// steps that can't be run, and stacks that are too high, too
	for _, s := range lay(api.Step{}, wide(33), of(a(-1, "\xff", "\xfe"))) {
		wantPop(t, lay(s), nil, s, api.OK)
		wantPop(t, lay(s, x, s), lay(s, x), s, api.OK)
	}
	for _, n := range []int{2, 15, 16, 17, 18, 100, 600} {
		all := many(n)
		wantPop(t, all, all[:n-1], all[n-1], api.OK)
	}
}

func TestWhatIsPushedIsPopped(t *testing.T) { // P24.1
	r := rand.New(rand.NewSource(24))
	for range 50 {
		var l, plain []api.Step
		for range 100 {
			if r.Intn(5) < 2 {
				var top api.Step
				wrong := api.ErrEmpty
				rest := plain
				if n := len(plain); n > 0 {
					rest, top, wrong = plain[:n-1], plain[n-1], api.OK
				}
				wantPop(t, l, rest, top, wrong)
				if wrong == api.OK {
					l, _, _ = Pop(l)
				}
				plain = rest
				continue
			}
			s, _ := drawnStep(r, drawn(r, 5), r.Intn(4))
			plain = append(slices.Clone(plain), s)
			if len(plain) > 16 {
				plain = plain[1:]
			}
			wantPush(t, l, s, plain)
			l = Push(l, s)
		}
	}
}

func TestStacksDoNotMeet(t *testing.T) { // P24.1, R3
	e := []api.Edit{a(0, "", "a")}
	s := of(e...)
	// one list, handed in as all steps there are
	wantPush(t, lay(s, s), s, lay(s, s, s))
	wantPop(t, lay(s, s, s), lay(s, s), s, api.OK)
	got := Push(lay(s, s), s)
	wantOwn(t, "Push", nil, got)
	rest, top, _ := Pop(lay(s, s, s))
	wantOwn(t, "Pop", nil, append(rest, top))
	// two stacks on one
	for n := range 20 {
		l := many(n)
		one, other := Push(l, of(a(0, "", "x"))), Push(l, of(a(0, "", "y")))
		if one[len(one)-1].Edits[0].New != "x" || other[len(other)-1].Edits[0].New != "y" {
			t.Fatalf("on %d steps: %s, %s", n, told(one...), told(other...))
		}
		wantOwn(t, "Push", one, other)
		wantOwnRow(t, "Push", one, other)
	}
	// what was handed in is changed behind the call
	l := lay(s)
	got = Push(l, s)
	rest, top, _ = Pop(lay(s, s))
	e[0], l[0] = a(5, "", "changed"), api.Step{}
	want := of(a(0, "", "a"))
	if !same(got, lay(want, want)) || !same(rest, lay(want)) || !sameStep(top, want) {
		t.Fatalf("%s; %s; %s", told(got...), told(rest...), told(top))
	}
}

func TestDepthCountsEdits(t *testing.T) { // P24.1
	wantDepth(t, nil, 0)
	wantDepth(t, lay(), 0)
	wantDepth(t, lay(api.Step{}, of([]api.Edit{}...)), 0)
	wantDepth(t, lay(of(a(0, "", "a"))), 1)
	wantDepth(t, lay(of(a(0, "", "a"), a(0, "a", "")), api.Step{}, wide(5)), 7)
	wantDepth(t, lay(of(a(-1, "\xff", ""))), 1)
	// however many
	wantDepth(t, lay(wide(33)), 33)
	wantDepth(t, slices.Repeat(lay(wide(32)), 16), 512)
	wantDepth(t, slices.Repeat(lay(wide(3)), 17), 51)
	wantDepth(t, slices.Repeat(lay(wide(300)), 600), 180000)
	for n := range 20 {
		want := 0
		for i := range n {
			want += 1 + i%3
		}
		wantDepth(t, many(n), want)
	}
}

func TestUndoesAndRedoesOfSomeStacks(t *testing.T) { // P24.2
	one, other := of(a(0, "", "a")), of(a(1, "", "b"))
	for _, x := range []struct {
		text           string
		l              []api.Step
		undoes, redoes bool
	}{
		{"", nil, true, true},
		{"ab", lay(), true, true},
		// without a step the text is not looked at
		{"\xff", nil, true, true},
		{strings.Repeat("a", 5000), nil, true, true},
		{"a", lay(one), true, true},
		{"", lay(one), false, true},
		{"b", lay(one), false, true},
		{"ab", lay(one, other), true, true},
		{"ba", lay(one, other), false, true},
		{"b", lay(one, other), false, true},
		// the last one first
		{"ab", lay(other, one), false, true},
		{"", lay(one, other), false, false},
		{"", lay(other, one), false, true},
		{"ab", lay(of(a(0, "", "ab")), of(a(0, "c", ""))), false, false},
		{"cab", lay(of(a(0, "", "ab")), of(a(0, "c", ""))), false, true},
		{"ab", lay(of(a(0, "c", "")), of(a(0, "", "ab"))), true, false},
		{"ab", lay(of(a(0, "x", "y")), of(a(0, "y", "a"))), true, false},
		{"yb", lay(of(a(0, "a", "c")), of(a(0, "y", "a"))), false, true},
		// the edits of a step: the last one is taken back first, the first one is done first
		{"ab", lay(of(one.Edits[0], other.Edits[0])), true, true},
		{"ab", lay(of(other.Edits[0], one.Edits[0])), false, true},
		{"", lay(of(other.Edits[0], one.Edits[0])), false, false},
		{"", lay(of(one.Edits[0], other.Edits[0])), false, true},
		// a step without edits is none that is Right
		{"a", lay(api.Step{}), false, false},
		{"a", lay(api.Step{}, one), false, false},
		{"a", lay(one, api.Step{}), false, false},
		{"a", lay(one, of([]api.Edit{}...), one), false, false},
		// an edit of nothing is one
		{"a", lay(of(a(0, "", "")), of(a(1, "", ""))), true, true},
		{"", lay(of(a(1, "", ""))), false, false},
		// runes that are cut, and bytes that are none
		{three, lay(of(a(1, "", ""))), false, false},
		{three, lay(of(a(0, "", three))), true, true},
		{three, lay(of(a(0, "", three[:1]))), false, false},
		{"\xff", lay(of(a(0, "", "\xff"))), false, false},
		{"a", lay(of(a(0, "\xff", "a"))), false, false},
		{"\xffa", lay(of(a(1, "", "a"))), true, true},
		// places that there are not
		{"a", lay(of(a(-1, "", "a"))), false, false},
		{"a", lay(of(a(math.MaxInt, "", "a"))), false, false},
		{"a", lay(of(a(math.MinInt, "a", ""))), false, false},
	} {
		wantGoes(t, x.text, x.l, x.undoes, x.redoes)
		if x.undoes != undoes(x.text, x.l) || x.redoes != redoes(x.text, x.l) {
			t.Fatalf("the rules spelt out tell another thing of %.40q, %s", x.text, told(x.l...))
		}
	}
}

func TestUndoesAndRedoesCountSteps(t *testing.T) { // P24.2
	for n := range 40 {
		l := many(n)
		text := ""
		for _, s := range l {
			text, _ = step.Run(text, s)
		}
		wantGoes(t, text, l, n <= 16, n <= 16)
	}
	// a stack of 17 is looked at as none of 16 is, whatever they are
	nothing := of(a(0, "", ""))
	wantGoes(t, "", slices.Repeat(lay(nothing), 16), true, true)
	wantGoes(t, "", slices.Repeat(lay(nothing), 17), false, false)
	wantGoes(t, "", slices.Repeat(lay(nothing), 600), false, false)
}

func TestUndoesAndRedoesCountEdits(t *testing.T) { // P24.2
	nothing := of(a(0, "", ""))
	for _, n := range []int{0, 1, 2, 31, 32, 33, 34, 300} {
		s := wide(n)
		text, _ := step.Run("", s)
		is := n >= 1 && n <= 32
		wantGoes(t, text, lay(s), is, is)
		wantGoes(t, text, lay(s, nothing), is, is)
		wantGoes(t, text, lay(nothing, s), is, is)
	}
}

func TestEachStepIsLookedAt(t *testing.T) { // P24.2
	bad := lay(api.Step{}, wide(33), of(a(-1, "", "")), of(a(0, "", "")), of(a(0, "\xff", "\xff")), of(a(0, "none", "none")))
	for n := 1; n <= 16; n++ {
		for i := range n {
			l := slices.Repeat(lay(of(a(0, "a", "a"))), n)
			for _, s := range bad {
				l[i] = s
				is := s.Edits != nil && s.Edits[0] == a(0, "", "") && len(s.Edits) == 1
				wantGoes(t, "a", l, is, is)
			}
		}
	}
}

func TestEachStepIsRunOnWhatTheOnesBehindItLeft(t *testing.T) { // P24.2
	// letters stand for the texts: each step knows the one that it is run on, and the one that it makes
	for n := 1; n <= 16; n++ {
		var back, on []api.Step
		for i := range n {
			back = append(back, of(a(0, letters(i), letters(i+1))))
			on = append(on, of(a(0, letters(n-i-1), letters(n-i))))
		}
		wantGoes(t, letters(n), back, true, false)
		wantGoes(t, letters(0), on, false, true)
		for i := range n {
			// the link between two steps is broken: the text that the upper one leaves is none that the lower one knows
			broken := deep(back)
			broken[i].Edits[0].New = "none"
			wantGoes(t, letters(n), broken, false, false)
			broken = deep(on)
			broken[i].Edits[0].Old = "none"
			wantGoes(t, letters(0), broken, false, false)
		}
	}
}

func TestUndoesAndRedoesUpToTheLongestText(t *testing.T) { // P24.2
	s := func(n int) string { return strings.Repeat("a", n) }
	wantGoes(t, s(4096), lay(of(a(0, "", s(4096)))), true, false)
	wantGoes(t, "", lay(of(a(0, s(4096), ""))), true, false)
	wantGoes(t, "", lay(of(a(0, s(4097), ""))), false, false)
	wantGoes(t, s(4095), lay(of(a(0, "", "a"))), true, true)
	wantGoes(t, s(4096), lay(of(a(0, "", "a"))), true, false)
	wantGoes(t, s(4095), lay(of(a(0, "a", ""))), true, true)
	wantGoes(t, s(4096), lay(of(a(0, "a", ""))), false, true)
	// what a step below would mend is wrong still
	wantGoes(t, s(4096), lay(of(a(0, "a", "")), of(a(0, "", "a"))), true, false)
	wantGoes(t, s(4096), lay(of(a(0, "", "a")), of(a(0, "a", ""))), false, true)
	wantGoes(t, s(4096), lay(of(a(0, "", "a")), of(a(0, "", "a"))), true, false)
}

func TestUndoesAndRedoesOfAllShortStacks(t *testing.T) { // P24.2
	var all []api.Step
	for at := -1; at < 3; at++ {
		for _, old := range []string{"", "a", two, "\xa9"} {
			for _, new := range []string{"", "a", two} {
				all = append(all, of(a(at, old, new)))
			}
		}
	}
	all = append(all, api.Step{}, of(a(0, "", "a"), a(1, "", two)), of(a(0, "", two), a(0, "", "a")))
	yes := 0
	for _, text := range []string{"", "a", "aa", two, "a" + two, two + "a", "\xa9"} {
		for _, x := range all {
			for _, y := range all {
				l := lay(x, y)
				is, too := undoes(text, l), redoes(text, l)
				wantGoes(t, text, l, is, too)
				if is && too {
					yes++
				}
			}
		}
	}
	if yes == 0 {
		t.Error("no stack both undoes and redoes")
	}
}

func TestUndoesAndRedoesOfDrawnStacks(t *testing.T) { // P24.2
	r := rand.New(rand.NewSource(241))
	yes := 0
	for range 4000 {
		text := drawn(r, r.Intn(20))
		first := text
		var l []api.Step
		for range r.Intn(18) {
			var s api.Step
			s, text = drawnStep(r, text, 1+r.Intn(5))
			l = append(l, s)
		}
		if n := len(l); n > 0 && r.Intn(2) == 0 {
			edits := l[r.Intn(n)].Edits
			switch e := &edits[r.Intn(len(edits))]; r.Intn(5) {
			case 0:
				e.At += r.Intn(5) - 2
			case 1:
				e.Old += "a"
			case 2:
				e.New += "\xf0\x9f"
			case 3:
				e.Old += strings.Repeat("a", 4097)
			case 4:
				i, j := r.Intn(n), r.Intn(n)
				l[i], l[j] = l[j], l[i]
			}
		}
		is := undoes(text, l)
		if is {
			yes++
		}
		wantGoes(t, text, l, is, redoes(text, l))
		slices.Reverse(l)
		wantGoes(t, first, l, undoes(first, l), redoes(first, l))
	}
	if yes < 1000 || yes > 3500 {
		t.Errorf("%d stacks of 4000 undo", yes)
	}
}

// wantPushed runs steps on a valid text and pushes each; the stack undoes what each one made, and what is popped and pushed on another one redoes it.
func wantPushed(t *testing.T, r *rand.Rand, text string, steps, edits int) {
	t.Helper()
	var undo, redo []api.Step
	texts := []string{text}
	for i := range steps {
		s, want := drawnStep(r, text, 1+r.Intn(edits))
		made, err := step.Run(text, s)
		if err != api.OK || made != want || !utf8.ValidString(made) {
			t.Fatalf("Run(%.40q, %s): %.40q, %s", text, told(s), made, api.Text(err))
		}
		undo, text, texts = Push(undo, s), made, append(texts, made)
		if !Undoes(text, undo) || len(undo) != min(16, i+1) {
			t.Fatalf("%s do not undo %.40q", told(undo...), text)
		}
	}
	for n := len(undo); n > 0; n-- {
		rest, s, err := Pop(undo)
		made, wrong := step.Run(text, step.Inverse(s))
		if err != api.OK || wrong != api.OK || made != texts[len(texts)-2] {
			t.Fatalf("%s back from %.40q: %.40q, %s", told(s), text, made, api.Text(wrong))
		}
		undo, redo, text, texts = rest, Push(redo, s), made, texts[:len(texts)-1]
		if !Undoes(text, undo) || !Redoes(text, redo) {
			t.Fatalf("%s and %s of %.40q", told(undo...), told(redo...), text)
		}
	}
	if _, _, err := Pop(undo); err != api.ErrEmpty {
		t.Fatalf("Pop of none: %s", api.Text(err))
	}
}

func TestWhatWasRunAndPushedUndoes(t *testing.T) { // P24.3
	r := rand.New(rand.NewSource(242))
	for _, runes := range []int{0, 1, 3, 30, 600} {
		for range 60 {
			wantPushed(t, r, drawn(r, r.Intn(runes+1)), r.Intn(40), 5)
		}
	}
	for range 5 {
		wantPushed(t, r, "", 20, 32)
	}
}

func TestLongTextsThatWereRunAndPushedUndo(t *testing.T) { // P24.3
	for _, n := range []int{0, 1, 4095, 4096} {
		text := strings.Repeat("a", n)
		var l []api.Step
		for i := range 20 {
			want := strings.Repeat(letters(i), 2048)
			s := of(a(0, text, ""), a(0, "", want))
			made, err := step.Run(text, s)
			if err != api.OK || made != want {
				t.Fatalf("step %d of %d bytes: %s", i, len(text), api.Text(err))
			}
			l, text = Push(l, s), made
			wantGoes(t, text, l, true, redoes(text, l))
		}
	}
}

func TestEveryCallTellsTheSameAgain(t *testing.T) { // P1, R1, R4
	some := []string{"", "a", two, three[1:], "\xff", strings.Repeat("a", 4097)}
	for _, text := range some {
		for _, at := range ends {
			for _, old := range some {
				for _, new := range some {
					x, y := of(a(0, "", "a")), of(a(at, old, new), a(at, new, old))
					l := lay(x, y)
					for range 2 {
						wantGoes(t, strings.Clone(text), l, undoes(text, l), redoes(text, l))
						wantPush(t, l, x, lay(x, y, x))
						wantPop(t, l, lay(x), y, api.OK)
						wantDepth(t, l, 3)
					}
				}
			}
		}
	}
}
