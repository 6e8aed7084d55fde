package state

import (
	"fmt"
	"math"
	"math/rand"
	"slices"
	"strings"
	"testing"
	"unicode/utf8"

	"stylus/api"
	"stylus/edit"
	"stylus/marks"
)

// Runes of two to four bytes.
const (
	two   = "\u00e9"
	three = "\u20ac"
	four  = "\U0001f600"
)

// a is an edit, in one word.
func a(at int, old, new string) api.Edit { return api.Edit{At: at, Old: old, New: new} }

// of is a step of those edits, in one word.
func of(l ...api.Edit) api.Step { return api.Step{Edits: l} }

// lay are those steps, in one word.
func lay(l ...api.Step) []api.Step { return l }

// group are those edits, in one word.
func group(l ...api.Edit) []api.Edit { return l }

// at are marks with the names a, b, .. at those places.
func at(places ...int) []api.Mark {
	var l []api.Mark
	for i, p := range places {
		l = append(l, api.Mark{Name: string(rune('a' + i)), At: p})
	}
	return l
}

// put are so many edits that put an x each at a text's begin.
func put(n int) []api.Edit { return slices.Repeat(group(a(0, "", "x")), n) }

// xs is a text of so many x.
func xs(n int) string { return strings.Repeat("x", n) }

// each are so many steps of one edit, that puts an x at a text's begin.
func each(n int) []api.Step { return slices.Repeat(lay(of(put(1)...)), n) }

// told is a state as text, cut short.
func told(s api.State) string {
	edits := func(l []api.Edit) string {
		var b strings.Builder
		fmt.Fprintf(&b, "[%d:", len(l))
		for _, e := range l[:min(len(l), 3)] {
			fmt.Fprintf(&b, " %d %.12q %.12q", e.At, e.Old, e.New)
		}
		return b.String() + "]"
	}
	var b strings.Builder
	fmt.Fprintf(&b, "%d bytes %.40q, %d marks %v", len(s.Text), s.Text, len(s.Marks), s.Marks[:min(len(s.Marks), 17)])
	for _, l := range [][]api.Step{s.Undo, s.Redo} {
		fmt.Fprintf(&b, ", %d steps", len(l))
		for _, x := range l[:min(len(l), 17)] {
			b.WriteString(" " + edits(x.Edits))
		}
	}
	fmt.Fprintf(&b, ", %v %s", s.Open, edits(s.Group))
	return b.String()
}

// deep is a copy that shares nothing, made without the package.
func deep(s api.State) api.State {
	s.Marks = append([]api.Mark{}, s.Marks...)
	s.Group = append([]api.Edit{}, s.Group...)
	for _, l := range []*[]api.Step{&s.Undo, &s.Redo} {
		var steps []api.Step
		for _, x := range *l {
			steps = append(steps, of(append([]api.Edit{}, x.Edits...)...))
		}
		*l = steps
	}
	return s
}

// equal holds two states against each other without the package; nil and empty lists are the same.
func equal(x, y api.State) bool {
	steps := func(l, m []api.Step) bool {
		return slices.EqualFunc(l, m, func(p, q api.Step) bool { return slices.Equal(p.Edits, q.Edits) })
	}
	return x.Text == y.Text && slices.Equal(x.Marks, y.Marks) && steps(x.Undo, y.Undo) && steps(x.Redo, y.Redo) &&
		x.Open == y.Open && slices.Equal(x.Group, y.Group)
}

// roomy is the same state, of which each list stands in a room that has more behind its end.
func roomy(s api.State) api.State {
	s = deep(s)
	marks := append(s.Marks, api.Mark{Name: "behind", At: 9}, api.Mark{Name: "further", At: -1})
	s.Marks = marks[:len(s.Marks)]
	s.Group = roomyEdits(s.Group)
	s.Undo, s.Redo = roomySteps(s.Undo), roomySteps(s.Redo)
	return s
}

// roomyEdits are edits in such a room.
func roomyEdits(l []api.Edit) []api.Edit {
	return append(slices.Clone(l), a(9, "behind", ""), a(10, "", "further"))[:len(l)]
}

// roomySteps are steps in such a room, each of them of edits in another one.
func roomySteps(l []api.Step) []api.Step {
	room := []api.Step{}
	for _, x := range append(slices.Clone(l), of(a(11, "", "behind")), of(a(12, "further", ""))) {
		room = append(room, api.Step{Edits: roomyEdits(x.Edits)})
	}
	return room[:len(l)]
}

// whole is a state with all that stands in its lists' rooms.
func whole(s api.State) api.State {
	s.Marks, s.Group = s.Marks[:cap(s.Marks)], s.Group[:cap(s.Group)]
	for _, l := range []*[]api.Step{&s.Undo, &s.Redo} {
		*l = slices.Clone((*l)[:cap(*l)])
		for i, x := range *l {
			(*l)[i].Edits = x.Edits[:cap(x.Edits)]
		}
	}
	return s
}

// kept runs a call with a state that stands in roomy lists, and looks at whether that, and what stands behind the ends, is as it was.
func kept(t *testing.T, what string, s api.State, call func(api.State)) {
	t.Helper()
	some := roomy(s)
	was := deep(whole(some))
	call(some)
	if !equal(whole(some), was) {
		t.Fatalf("%s: what was handed in is changed: %s", what, told(s))
	}
}

// wantRight holds Right against what it is to tell.
func wantRight(t *testing.T, what string, s api.State, want bool) {
	t.Helper()
	kept(t, "Right", s, func(some api.State) {
		for _, x := range []api.State{s, some, some} {
			if got := Right(x); got != want {
				t.Fatalf("%s: Right(%s): %v", what, told(s), got)
			}
		}
	})
}

// rules is the chapter's rule of Right, spelt out.
func rules(s api.State) bool {
	if len(s.Text) > 4096 || !utf8.ValidString(s.Text) || !marks.Right(s.Marks, s.Text) {
		return false
	}
	if !s.Open && len(s.Group) > 0 || len(s.Group) > 32 || len(s.Group) > 0 && len(s.Redo) > 0 || len(s.Undo) > 16 || len(s.Redo) > 16 {
		return false
	}
	for _, x := range append(slices.Clone(s.Undo), s.Redo...) {
		if len(x.Edits) < 1 || len(x.Edits) > 32 {
			return false
		}
	}
	var down, up []api.Edit
	for _, x := range append(slices.Clone(s.Undo), of(s.Group...)) {
		for _, e := range x.Edits {
			down = append(group(edit.Inverse(e)), down...)
		}
	}
	for _, x := range slices.Backward(s.Redo) {
		up = append(up, x.Edits...)
	}
	return runs(s.Text, down) && runs(s.Text, up)
}

// runs tells whether all edits can be done to a text, and have the size that they may have.
func runs(text string, l []api.Edit) bool {
	for _, e := range l {
		made, err := edit.Apply(text, e)
		if err != api.OK || len(e.Old) > 512 || len(e.New) > 512 || e.Old+e.New == "" {
			return false
		}
		text = made
	}
	return true
}

// maker makes states by plain means.
type maker struct {
	r *rand.Rand
	s api.State
}

// place is an edge of the text, as drawn.
func (m *maker) place() int {
	for {
		n := m.r.Intn(len(m.s.Text) + 1)
		if n == len(m.s.Text) || utf8.RuneStart(m.s.Text[n]) {
			return n
		}
	}
}

// edit puts some runes in the place of some.
func (m *maker) edit() {
	from, to := m.place(), m.place()
	from, to = min(from, to), max(from, to)
	var b strings.Builder
	for range m.r.Intn(4) {
		b.WriteString([]string{"a", "b", "\n", "\x00", two, three, four}[m.r.Intn(7)])
	}
	e := a(from, m.s.Text[from:to], b.String())
	if len(e.Old) > 512 || e.Old == "" && e.New == "" {
		return
	}
	m.s.Text = m.s.Text[:from] + e.New + m.s.Text[to:]
	m.s.Redo = nil
	if !m.s.Open {
		m.s.Undo = append(m.s.Undo, of(e))
	} else if m.s.Group = append(m.s.Group, e); len(m.s.Group) == 32 {
		m.end()
	}
	m.s.Undo = m.s.Undo[max(0, len(m.s.Undo)-16):]
}

// end closes the group.
func (m *maker) end() {
	if len(m.s.Group) > 0 {
		m.s.Undo = append(m.s.Undo, of(m.s.Group...))
		m.s.Undo = m.s.Undo[max(0, len(m.s.Undo)-16):]
	}
	m.s.Open, m.s.Group = false, nil
}

// undo takes the last step back.
func (m *maker) undo() {
	n := len(m.s.Undo)
	if m.s.Open || n == 0 {
		return
	}
	x := m.s.Undo[n-1]
	for _, e := range slices.Backward(x.Edits) {
		m.s.Text = m.s.Text[:e.At] + e.Old + m.s.Text[e.At+len(e.New):]
	}
	m.s.Undo, m.s.Redo = m.s.Undo[:n-1], append(m.s.Redo, x)
}

// drawnState is a state as operations leave one.
func drawnState(r *rand.Rand) api.State {
	m := &maker{r: r}
	for range r.Intn(60) {
		switch n := r.Intn(12); {
		case n < 7:
			m.edit()
		case n < 9:
			m.undo()
		case n < 11:
			m.s.Open = true
		default:
			m.end()
		}
	}
	for range r.Intn(3) {
		m.undo()
	}
	for i := range r.Intn(17) {
		m.s.Marks = append(m.s.Marks, api.Mark{Name: string(rune('a' + i)), At: m.place()})
	}
	return deep(m.s)
}

// listed are all lists of edits of a state.
func listed(s *api.State) []*[]api.Edit {
	l := []*[]api.Edit{&s.Group}
	for i := range s.Undo {
		l = append(l, &s.Undo[i].Edits)
	}
	for i := range s.Redo {
		l = append(l, &s.Redo[i].Edits)
	}
	return l
}

// changed is another state: one thing of it is another one.
func changed(r *rand.Rand, s api.State) api.State {
	s = deep(s)
	edits := listed(&s)
	pick := edits[r.Intn(len(edits))]
	other := []string{"", "a", "b", two, three[:2], "\xff", xs(512), xs(513), strings.Repeat(two, 256), four}[r.Intn(10)]
	switch r.Intn(12) {
	case 0:
		s.Text = other
	case 1:
		s.Text += other
	case 2:
		s.Open = !s.Open
	case 3:
		if n := len(s.Marks); n > 0 {
			s.Marks[r.Intn(n)].At += r.Intn(5) - 2
		}
	case 4:
		if n := len(s.Marks); n > 0 {
			s.Marks[r.Intn(n)].Name = []string{"", "a", "b", "A", "abcdefgh", "abcdefghi"}[r.Intn(6)]
		}
	case 5:
		s.Undo, s.Redo = s.Redo, s.Undo
	case 6:
		s.Undo = append(s.Undo, of(a(0, "", other)))
	case 7:
		s.Redo = append(s.Redo, of(a(0, "", other)))
	case 8:
		*pick = append(*pick, a(r.Intn(3)-1, "", other))
	case 9:
		*pick = append(group(a(0, "", other), a(0, other, "")), *pick...)
	case 10:
		*pick = nil
	case 11:
		if n := len(*pick); n > 0 {
			e := &(*pick)[r.Intn(n)]
			*[]*string{&e.Old, &e.New}[r.Intn(2)] = other
			e.At += r.Intn(3) - 1
		}
	}
	return s
}

func TestRightOfSomeStates(t *testing.T) { // P25.1
	x := a(0, "", "x")
	for _, c := range []struct {
		what string
		s    api.State
		want bool
	}{
		{"the empty state", api.State{}, true},
		{"empty lists", api.State{Marks: at(), Undo: lay(), Redo: lay(), Group: group()}, true},
		{"an open group without edits", api.State{Open: true}, true},
		{"a text", api.State{Text: "a" + two + three + four + "\n\x00"}, true},
		{"bytes that are no runes", api.State{Text: "a\xff"}, false},
		{"a rune that is cut", api.State{Text: three[:2]}, false},
		{"a rune that is none", api.State{Text: "\xed\xa0\x80"}, false},

		{"marks", api.State{Text: "a" + three, Marks: at(0, 1, 4, 4)}, true},
		{"a mark within a rune", api.State{Text: "a" + three, Marks: at(0, 2)}, false},
		{"a mark behind the text", api.State{Text: "a", Marks: at(2)}, false},
		{"a mark ahead of it", api.State{Text: "a", Marks: at(-1)}, false},
		{"a mark of the ints' end", api.State{Text: "a", Marks: at(math.MinInt)}, false},
		{"names that do not rise", api.State{Marks: []api.Mark{{Name: "b"}, {Name: "a"}}}, false},
		{"names that are the same", api.State{Marks: []api.Mark{{Name: "a"}, {Name: "a"}}}, false},
		{"a name that may not be", api.State{Marks: []api.Mark{{Name: "A"}}}, false},
		{"no name", api.State{Marks: []api.Mark{{}}}, false},

		{"one step to undo", api.State{Text: "x", Undo: lay(of(x))}, true},
		{"one step to undo that is not there", api.State{Text: "y", Undo: lay(of(x))}, false},
		{"a step without edits to undo", api.State{Text: "x", Undo: lay(api.Step{})}, false},
		{"steps to undo, the last one first", api.State{Text: "yx", Undo: lay(of(x), of(a(0, "", "y")))}, true},
		{"steps to undo, the first one first", api.State{Text: "yx", Undo: lay(of(a(0, "", "y")), of(x))}, false},
		{"one step to redo", api.State{Text: "y", Redo: lay(of(x))}, true},
		{"one step to redo that can't be", api.State{Text: "y", Redo: lay(of(a(0, "x", "")))}, false},
		{"a step without edits to redo", api.State{Text: "y", Redo: lay(of())}, false},
		{"steps to redo, the last one first", api.State{Redo: lay(of(a(1, "", "y")), of(x))}, true},
		{"steps to redo, the first one first", api.State{Redo: lay(of(x), of(a(1, "", "y")))}, false},
		{"both", api.State{Text: "x", Undo: lay(of(x)), Redo: lay(of(a(0, "x", "")))}, true},
		{"both, in each other's place", api.State{Text: "x", Undo: lay(of(a(0, "x", ""))), Redo: lay(of(x))}, true},
		{"undo of what redo makes", api.State{Undo: lay(of(x)), Redo: lay(of(x))}, false},
		{"both, while a group is open", api.State{Text: "x", Undo: lay(of(x)), Redo: lay(of(a(0, "x", ""))), Open: true}, true},
		{"a step that puts what is no rune", api.State{Text: "", Redo: lay(of(a(0, "", "\xff")))}, false},
		{"a step that took what is no rune", api.State{Text: "", Undo: lay(of(a(0, "\xff", "")))}, false},
		{"a step that cuts a rune", api.State{Text: two, Undo: lay(of(a(1, "", two[1:])))}, false},

		{"a group", api.State{Text: "x", Open: true, Group: group(x)}, true},
		{"a group that is not open", api.State{Text: "x", Group: group(x)}, false},
		{"a group that is not there", api.State{Text: "y", Open: true, Group: group(x)}, false},
		{"a group, the last one taken back first", api.State{Text: "yx", Open: true, Group: group(x, a(0, "", "y"))}, true},
		{"a group, the first one taken back first", api.State{Text: "yx", Open: true, Group: group(a(0, "", "y"), x)}, false},
		{"a group, and what can be redone", api.State{Text: "x", Open: true, Group: group(x), Redo: lay(of(x))}, false},
		{"a group, and what can't", api.State{Text: "x", Open: true, Group: group(x), Redo: lay(api.Step{})}, false},
		{"a group that took what is no rune", api.State{Open: true, Group: group(a(0, "\xff", ""))}, false},

		{"undo below a group", api.State{Text: "yx", Undo: lay(of(x)), Open: true, Group: group(a(0, "", "y"))}, true},
		{"undo below a group that took all", api.State{Text: "", Undo: lay(of(x)), Open: true, Group: group(a(0, "x", ""))}, true},
		{"undo of the text, below a group", api.State{Text: "yx", Undo: lay(of(a(0, "", "y"))), Open: true, Group: group(a(0, "", "y"))}, false},
		{"undo of what the first edit of a group left", api.State{Text: "yx", Undo: lay(of(x)), Open: true, Group: group(x, a(0, "", "y"))}, false},
		{"undo of no steps, below a group", api.State{Text: "yx", Undo: lay(), Open: true, Group: group(a(0, "", "y"))}, true},

		{"an edit of nothing to undo", api.State{Text: "x", Undo: lay(of(a(0, "", "")))}, false},
		{"an edit of nothing to redo", api.State{Text: "x", Redo: lay(of(a(0, "", "")))}, false},
		{"an edit of nothing in a group", api.State{Text: "x", Open: true, Group: group(a(0, "", ""))}, false},
		{"an edit of nothing among others", api.State{Text: "x", Undo: lay(of(x, a(0, "", "")))}, false},
		{"an edit of nothing, in a lower step", api.State{Text: "x", Undo: lay(of(a(0, "", "")), of(x))}, false},
		{"an edit of the same text", api.State{Text: "x", Undo: lay(of(a(0, "x", "x"))), Redo: lay(of(a(0, "x", "x"))), Open: true}, true},
	} {
		wantRight(t, c.what, c.s, c.want)
		if rules(c.s) != c.want {
			t.Fatalf("%s: the rules spelt out tell another thing", c.what)
		}
	}
}

func TestRightOfBigStates(t *testing.T) { // P25.1
	row := func(n int) []api.Mark { return at(make([]int, n)...) }
	wide := strings.Repeat(three, 4096)
	for n := range 40 {
		wantRight(t, "marks", api.State{Marks: row(n)}, n <= 16)
		wantRight(t, "steps to undo", api.State{Text: xs(n), Undo: each(n)}, n <= 16)
		wantRight(t, "steps to redo", api.State{Redo: each(n)}, n <= 16)
		wantRight(t, "edits of a group", api.State{Text: xs(n), Open: true, Group: put(n)}, n <= 32)
		wantRight(t, "edits of a step to undo", api.State{Text: xs(n), Undo: lay(of(put(n)...))}, n >= 1 && n <= 32)
		wantRight(t, "edits of a step to redo", api.State{Redo: lay(of(put(n)...))}, n >= 1 && n <= 32)
		wantRight(t, "edits of a group above steps", api.State{Text: xs(n + 16), Undo: each(16), Open: true, Group: put(n)}, n <= 32)
		wantRight(t, "steps below a group", api.State{Text: xs(n + 32), Undo: each(n), Open: true, Group: put(32)}, n <= 16)
	}
	for _, n := range []int{1, 255, 256, 511, 512, 513, 514, 1000, 4095, 4096, 4097, 4098} {
		long := xs(n)
		wantRight(t, "a text", api.State{Text: long}, n <= 4096)
		wantRight(t, "a text that ends in a rune", api.State{Text: wide[:n-n%3]}, n < 4098)
		wantRight(t, "New to undo", api.State{Text: long, Undo: lay(of(a(0, "", long)))}, n <= 512)
		wantRight(t, "Old to undo", api.State{Undo: lay(of(a(0, long, "")))}, n <= 512)
		wantRight(t, "New to redo", api.State{Redo: lay(of(a(0, "", long)))}, n <= 512)
		wantRight(t, "Old to redo", api.State{Text: long, Redo: lay(of(a(0, long, "")))}, n <= 512)
		wantRight(t, "New of a group", api.State{Text: long, Open: true, Group: group(a(0, "", long))}, n <= 512)
		wantRight(t, "Old of a group", api.State{Open: true, Group: group(a(0, long, ""))}, n <= 512)
		wantRight(t, "both", api.State{Text: long, Undo: lay(of(a(0, long, long)))}, n <= 512)
		wantRight(t, "the first of a group", api.State{Text: "x", Open: true, Group: group(a(0, long, ""), a(0, "", "x"))}, n <= 512)
		wantRight(t, "a lower step", api.State{Text: "x", Undo: lay(of(a(0, long, "")), of(put(1)...))}, n <= 512)
	}
	// texts between are not longer than a text may be, either
	for _, n := range []int{4096 - 512, 4096 - 511} {
		wantRight(t, "a long text ahead of Undo", api.State{Text: xs(n), Undo: lay(of(a(0, xs(512), "")))}, n == 4096-512)
		wantRight(t, "a long text ahead of the group", api.State{Text: xs(n), Open: true, Group: group(a(0, xs(512), ""))}, n == 4096-512)
		wantRight(t, "a long text behind Redo", api.State{Text: xs(n), Redo: lay(of(a(0, "", xs(512))))}, n == 4096-512)
	}
}

func TestRightOfDrawnStates(t *testing.T) { // P25.1
	r := rand.New(rand.NewSource(25))
	count := map[bool]int{}
	for range 4000 {
		s := drawnState(r)
		wantRight(t, "as operations leave it", s, true)
		other := changed(r, s)
		want := rules(other)
		wantRight(t, "changed", other, want)
		count[want]++
		again := changed(r, other)
		wantRight(t, "changed twice", again, rules(again))
	}
	if count[true] < 500 || count[false] < 500 {
		t.Fatalf("of the changed states %d may be, %d may not", count[true], count[false])
	}
}

func TestRightOfLongLists(t *testing.T) { // P25.1, R1
	const n = 200000
	same := slices.Repeat(group(a(0, "x", "y")), n)
	text := xs(4096)
	for _, s := range []api.State{
		{Text: text, Open: true, Group: same},
		{Text: text, Undo: lay(of(same...))},
		{Text: text, Redo: lay(of(same...))},
		{Text: text, Undo: make([]api.Step, n)},
		{Text: text, Redo: make([]api.Step, n)},
		{Text: text, Marks: make([]api.Mark, n)},
		{Text: strings.Repeat(text, 1000)},
	} {
		if Right(s) {
			t.Fatalf("Right(%s)", told(s))
		}
	}
}

// differing are states no two of which are the same.
func differing() []api.State {
	x, y := a(0, "", "x"), a(0, "", "y")
	return []api.State{
		{},
		{Text: "a"},
		{Text: "b"},
		{Text: "ab"},
		{Text: "\xff"},
		{Text: "\ufffd"},
		{Open: true},
		{Text: "a", Open: true},
		{Marks: at(0)},
		{Marks: at(1)},
		{Marks: at(-1)},
		{Marks: at(math.MaxInt)},
		{Marks: at(0, 0)},
		{Marks: at(0, 1)},
		{Marks: at(1, 0)},
		{Marks: []api.Mark{{Name: "b"}}},
		{Marks: []api.Mark{{Name: "\xff"}}},
		{Marks: []api.Mark{{Name: "\xfe"}}},
		{Marks: []api.Mark{{Name: "b"}, {Name: "a"}}},
		{Undo: lay(of(x))},
		{Redo: lay(of(x))},
		{Group: group(x)},
		{Group: group(x), Open: true},
		{Group: group(y), Open: true},
		{Group: group(x, x), Open: true},
		{Group: group(a(1, "", "x")), Open: true},
		{Undo: lay(of(x)), Redo: lay(of(x))},
		{Undo: lay(of(y))},
		{Redo: lay(of(y))},
		{Undo: lay(of(x)), Redo: lay(of(y))},
		{Undo: lay(of(y)), Redo: lay(of(x))},
		{Undo: lay(of(a(1, "", "x")))},
		{Undo: lay(of(a(0, "x", "")))},
		{Undo: lay(of(a(0, "", "xx")))},
		{Undo: lay(of(a(0, "", "\xff")))},
		{Undo: lay(of(a(0, "", "\xfe")))},
		{Redo: lay(of(a(1, "", "x")))},
		{Redo: lay(of(a(0, "x", "")))},
		{Undo: lay(of(x, y))},
		{Undo: lay(of(y, x))},
		{Undo: lay(of(x), of(y))},
		{Undo: lay(of(y), of(x))},
		{Redo: lay(of(x), of(y))},
		{Redo: lay(of(x, y))},
		{Undo: lay(of())},
		{Redo: lay(of())},
		{Undo: lay(of(), of(x))},
		{Undo: lay(of(x), of())},
		{Undo: lay(of(x), of(), of(y))},
	}
}

// wantSame holds Same of two states, either way round, against what it is to tell.
func wantSame(t *testing.T, x, y api.State, want bool) {
	t.Helper()
	kept(t, "Same", x, func(p api.State) {
		kept(t, "Same", y, func(q api.State) {
			for _, pair := range [][2]api.State{{x, y}, {p, q}, {q, p}, {p, q}} {
				if got := Same(pair[0], pair[1]); got != want {
					t.Fatalf("Same(%s; %s): %v", told(pair[0]), told(pair[1]), got)
				}
			}
		})
	})
}

func TestSameStates(t *testing.T) { // P25.2
	all := differing()
	for i, x := range all {
		for j, y := range all {
			wantSame(t, x, y, i == j)
		}
		wantSame(t, x, deep(x), true)
	}
	// nil and empty lists
	empty := api.State{Marks: at(), Undo: lay(), Redo: lay(), Group: group()}
	wantSame(t, api.State{}, empty, true)
	wantSame(t, api.State{Undo: lay(api.Step{}), Redo: lay(of(group()...))}, api.State{Undo: lay(of(group()...)), Redo: lay(api.Step{})}, true)
	r := rand.New(rand.NewSource(26))
	for range 2000 {
		s := drawnState(r)
		other := changed(r, s)
		wantSame(t, s, deep(s), true)
		wantSame(t, s, other, equal(s, other))
	}
}

// cells are where all items of a state's lists stand, those in their spare room, too.
func cells(s api.State) []any {
	var l []any
	for i := range s.Marks[:cap(s.Marks)] {
		l = append(l, &s.Marks[:cap(s.Marks)][i])
	}
	for _, steps := range [][]api.Step{s.Undo, s.Redo} {
		for i := range steps[:cap(steps)] {
			l = append(l, &steps[:cap(steps)][i])
		}
	}
	s = whole(s)
	for _, edits := range listed(&s) {
		for i := range *edits {
			l = append(l, &(*edits)[i])
		}
	}
	return l
}

// wantCopy holds Copy against the state that it is to be the same as, and looks at whether it is all new memory.
func wantCopy(t *testing.T, s api.State) {
	t.Helper()
	kept(t, "Copy", s, func(some api.State) {
		for range 2 {
			c := Copy(some)
			if !equal(c, s) || !Same(c, s) {
				t.Fatalf("Copy(%s): %s", told(s), told(c))
			}
			seen := map[any]bool{}
			for _, x := range cells(some) {
				seen[x] = true
			}
			for _, x := range cells(c) {
				if seen[x] {
					t.Fatalf("Copy(%s): some of it stands where other things stand", told(s))
				}
				seen[x] = true
			}
		}
	})
}

func TestCopyOfStates(t *testing.T) { // P25.2, P25.4
	for _, s := range differing() {
		wantCopy(t, s)
	}
	// one list that stands for many
	l := group(a(0, "", "x"), a(0, "", "y"))
	wantCopy(t, api.State{Undo: lay(of(l...), of(l...)), Redo: lay(of(l...)), Open: true, Group: l})
	row := lay(of(l...))
	shared := api.State{Undo: row, Redo: row, Group: l}
	c := Copy(shared)
	seen := map[any]bool{}
	for _, x := range cells(c) {
		if seen[x] {
			t.Fatal("Copy: two of its lists share memory")
		}
		seen[x] = true
	}
	// what may not be, too
	wantCopy(t, api.State{Text: "\xff", Marks: at(-1, math.MaxInt), Undo: make([]api.Step, 40), Redo: lay(of(put(500)...)), Group: put(100)})
	r := rand.New(rand.NewSource(27))
	for range 1000 {
		s := drawnState(r)
		wantCopy(t, s)
		wantCopy(t, changed(r, s))
	}
}

func TestCopyIsApart(t *testing.T) { // P25.4
	r := rand.New(rand.NewSource(28))
	spoil := func(s api.State) {
		s = whole(s)
		for _, edits := range listed(&s) {
			for i := range *edits {
				(*edits)[i] = a(-7, "changed", "changed")
			}
		}
		for i := range s.Marks {
			s.Marks[i] = api.Mark{Name: "changed", At: -7}
		}
	}
	for range 500 {
		s := drawnState(r)
		was := deep(s)
		c := Copy(s)
		spoil(c)
		clear(c.Undo)
		clear(c.Redo)
		if !equal(s, was) {
			t.Fatalf("what was done to the copy is seen: %s, was %s", told(s), told(was))
		}
		c = Copy(s)
		spoil(s)
		clear(s.Undo)
		clear(s.Redo)
		if !equal(c, was) {
			t.Fatalf("what was done to the state is seen in the copy: %s, was %s", told(c), told(was))
		}
	}
}

// wantShow holds Show against a text.
func wantShow(t *testing.T, s api.State, want string) {
	t.Helper()
	kept(t, "Show", s, func(some api.State) {
		for range 2 {
			if got := Show(some); got != want {
				t.Fatalf("Show(%s): %q, want %q", told(s), got, want)
			}
		}
	})
}

func TestShowOfStates(t *testing.T) { // P25.3
	wantShow(t, api.State{}, "text \nundo 0\nredo 0\n")
	wantShow(t, api.State{Marks: at(), Undo: lay(), Redo: lay(), Group: group()}, "text \nundo 0\nredo 0\n")
	wantShow(t, api.State{Text: "a b"}, "text a b\nundo 0\nredo 0\n")
	wantShow(t, api.State{Text: "a\n\nb\n"}, "text a\n\nb\n\nundo 0\nredo 0\n")
	wantShow(t, api.State{Text: three + "\x00"}, "text "+three+"\x00\nundo 0\nredo 0\n")
	wantShow(t, api.State{Text: "abc", Marks: []api.Mark{{Name: "a", At: 3}, {Name: "here", At: 0}}}, "text abc\nmark a 3\nmark here 0\nundo 0\nredo 0\n")
	wantShow(t, api.State{Undo: each(2), Redo: lay(of(put(3)...))}, "text \nundo 2\nredo 1\n")
	wantShow(t, api.State{Undo: each(16), Redo: each(10)}, "text \nundo 16\nredo 10\n")
	wantShow(t, api.State{Open: true}, "text \nundo 0\nredo 0\nopen 0\n")
	wantShow(t, api.State{Text: "xx", Marks: at(2), Undo: each(1), Open: true, Group: put(1)}, "text xx\nmark a 2\nundo 1\nredo 0\nopen 1\n")
	wantShow(t, api.State{Open: true, Group: put(32)}, "text \nundo 0\nredo 0\nopen 32\n")
	// what may not be is shown as it is
	wantShow(t, api.State{Group: put(3)}, "text \nundo 0\nredo 0\n")
	wantShow(t, api.State{Text: "\xff", Marks: []api.Mark{{Name: "", At: -1}, {Name: "\xff B", At: 7}, {Name: "a", At: math.MaxInt}, {Name: "a", At: math.MinInt}}, Undo: make([]api.Step, 17), Redo: make([]api.Step, 1000), Open: true, Group: put(33)},
		"text \xff\nmark  -1\nmark \xff B 7\nmark a 9223372036854775807\nmark a -9223372036854775808\nundo 17\nredo 1000\nopen 33\n")
	wantShow(t, api.State{Text: xs(5000), Marks: at(4096)}, "text "+xs(5000)+"\nmark a 4096\nundo 0\nredo 0\n")
}

// wantSize holds Size against a number.
func wantSize(t *testing.T, s api.State, want int) {
	t.Helper()
	kept(t, "Size", s, func(some api.State) {
		for range 2 {
			if got := Size(some); got != want {
				t.Fatalf("Size(%s): %d, want %d", told(s), got, want)
			}
		}
	})
}

func TestSizeOfStates(t *testing.T) { // P25.2
	wantSize(t, api.State{}, 0)
	wantSize(t, api.State{Open: true, Marks: at(), Undo: lay(api.Step{}), Redo: lay(of()), Group: group()}, 0)
	wantSize(t, api.State{Text: "a" + two + three + four + "\n"}, 11)
	wantSize(t, api.State{Marks: []api.Mark{{Name: "a", At: 500}, {Name: "here"}}}, 5)
	wantSize(t, api.State{Undo: lay(of(a(7, "a", "bc")), of(a(0, "", "def"), a(0, "gh", "")))}, 8)
	wantSize(t, api.State{Redo: lay(of(a(7, "a", "bc")), of(a(0, "", "def"), a(0, "ghi", "")))}, 9)
	wantSize(t, api.State{Open: true, Group: group(a(7, "a", "bc"), a(0, "", three))}, 6)
	wantSize(t, api.State{Text: "1", Marks: []api.Mark{{Name: "22"}}, Undo: lay(of(a(0, "4444", "88888888"))), Redo: lay(of(a(0, xs(16), xs(32)))), Group: group(a(0, xs(64), xs(128)))}, 255)
	// what may not be, too
	wantSize(t, api.State{Text: "\xff", Marks: []api.Mark{{Name: "\xff B", At: -1}}, Undo: slices.Repeat(lay(of(put(40)...)), 20), Redo: each(300), Group: put(50)}, 1+3+800+300+50)
	wantSize(t, api.State{Text: xs(100000)}, 100000)
	r := rand.New(rand.NewSource(29))
	for range 1000 {
		s := drawnState(r)
		want := len(s.Text)
		for _, m := range s.Marks {
			want += len(m.Name)
		}
		for _, l := range listed(&s) {
			for _, e := range *l {
				want += len(e.Old + e.New)
			}
		}
		wantSize(t, s, want)
	}
}
