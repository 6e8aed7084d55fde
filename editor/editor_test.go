package editor

import (
	"fmt"
	"math"
	"math/rand"
	"slices"
	"strings"
	"testing"
	"unicode/utf8"

	"stylus/api"
	"stylus/rope"
	"stylus/state"
)

// Runes of two to four bytes.
const (
	two   = "\u00e9"
	three = "\u20ac"
	four  = "\U0001f600"
)

// Operations, in one word each.
var (
	undo  = api.Op{Kind: api.OpUndo}
	redo  = api.Op{Kind: api.OpRedo}
	begin = api.Op{Kind: api.OpBegin}
	end   = api.Op{Kind: api.OpEnd}
)

func insert(at int, s string) api.Op  { return api.Op{Kind: api.OpInsert, At: at, S: s} }
func remove(at, n int) api.Op         { return api.Op{Kind: api.OpDelete, At: at, N: n} }
func mark(name string, at int) api.Op { return api.Op{Kind: api.OpMark, At: at, S: name} }
func unmark(name string) api.Op       { return api.Op{Kind: api.OpUnmark, S: name} }

// a is an edit, in one word.
func a(at int, old, new string) api.Edit { return api.Edit{At: at, Old: old, New: new} }

// of is a step of those edits, in one word.
func of(l ...api.Edit) api.Step { return api.Step{Edits: l} }

// lay are those steps, in one word.
func lay(l ...api.Step) []api.Step { return l }

// group are those edits, in one word.
func group(l ...api.Edit) []api.Edit { return l }

// at are marks with the names a, b, .. at those places.
func at(places ...int) []api.Mark {
	var l []api.Mark
	for i, p := range places {
		l = append(l, api.Mark{Name: string(rune('a' + i)), At: p})
	}
	return l
}

// xs is a text of so many x.
func xs(n int) string { return strings.Repeat("x", n) }

// put are so many edits that put an x each at a text's begin.
func put(n int) []api.Edit { return slices.Repeat(group(a(0, "", "x")), n) }

// each are so many steps of one edit, that puts an x at a text's begin.
func each(n int) []api.Step { return slices.Repeat(lay(of(put(1)...)), n) }

// told is a state as text, cut short.
func told(s api.State) string {
	edits := func(l []api.Edit) string {
		var b strings.Builder
		fmt.Fprintf(&b, "[%d:", len(l))
		for _, e := range l[:min(len(l), 3)] {
			fmt.Fprintf(&b, " %d %.12q %.12q", e.At, e.Old, e.New)
		}
		return b.String() + "]"
	}
	var b strings.Builder
	fmt.Fprintf(&b, "%d bytes %.40q, marks %v", len(s.Text), s.Text, s.Marks)
	for _, l := range [][]api.Step{s.Undo, s.Redo} {
		fmt.Fprintf(&b, ", %d steps", len(l))
		for _, x := range l {
			b.WriteString(" " + edits(x.Edits))
		}
	}
	fmt.Fprintf(&b, ", %v %s", s.Open, edits(s.Group))
	return b.String()
}

// deep is a copy that shares nothing.
func deep(s api.State) api.State {
	s.Marks = append([]api.Mark{}, s.Marks...)
	s.Group = append([]api.Edit{}, s.Group...)
	for _, l := range []*[]api.Step{&s.Undo, &s.Redo} {
		var steps []api.Step
		for _, x := range *l {
			steps = append(steps, of(append([]api.Edit{}, x.Edits...)...))
		}
		*l = steps
	}
	return s
}

// equal holds two states against each other; nil and empty lists are the same.
func equal(x, y api.State) bool {
	steps := func(l, m []api.Step) bool {
		return slices.EqualFunc(l, m, func(p, q api.Step) bool { return slices.Equal(p.Edits, q.Edits) })
	}
	return x.Text == y.Text && slices.Equal(x.Marks, y.Marks) && steps(x.Undo, y.Undo) && steps(x.Redo, y.Redo) &&
		x.Open == y.Open && slices.Equal(x.Group, y.Group)
}

// spoil changes all that stands in a state's lists, and in the room behind their ends.
func spoil(s api.State) {
	edits := func(l []api.Edit) {
		for i := range l[:cap(l)] {
			l[:cap(l)][i] = a(-7, "spoilt", "too")
		}
	}
	for i := range s.Marks[:cap(s.Marks)] {
		s.Marks[:cap(s.Marks)][i] = api.Mark{Name: "spoilt", At: -7}
	}
	for _, l := range [][]api.Step{s.Undo, s.Redo} {
		for i := range l[:cap(l)] {
			edits(l[:cap(l)][i].Edits)
			l[:cap(l)][i] = of(a(-7, "", ""))
		}
	}
	edits(s.Group)
}

// plain does operations as the chapter's words say, on a string and on lists.
type plain struct{ s api.State }

// edge tells whether no rune is cut there.
func (p *plain) edge(at int) bool {
	return at == len(p.s.Text) || utf8.RuneStart(p.s.Text[at])
}

func (p *plain) do(x api.Op) api.Errno {
	switch x.Kind {
	case api.OpInsert:
		return p.insert(x.At, x.S)
	case api.OpDelete:
		return p.remove(x.At, x.N)
	case api.OpMark:
		return p.mark(x.S, x.At)
	case api.OpUnmark:
		i := slices.IndexFunc(p.s.Marks, func(m api.Mark) bool { return m.Name == x.S })
		if i < 0 {
			return api.ErrNone
		}
		p.s.Marks = slices.Delete(p.s.Marks, i, i+1)
		return api.OK
	case api.OpUndo, api.OpRedo:
		return p.turn(x.Kind == api.OpUndo)
	case api.OpBegin:
		if p.s.Open {
			return api.ErrState
		}
		p.s.Open = true
		return api.OK
	case api.OpEnd:
		if !p.s.Open {
			return api.ErrState
		}
		if len(p.s.Group) > 0 {
			p.s.Undo = pushed(p.s.Undo, of(p.s.Group...))
		}
		p.s.Open, p.s.Group = false, nil
		return api.OK
	}
	return api.ErrArg
}

func (p *plain) insert(at int, s string) api.Errno {
	switch {
	case at < 0 || at > len(p.s.Text):
		return api.ErrRange
	case !p.edge(at):
		return api.ErrSplit
	case !utf8.ValidString(s):
		return api.ErrForm
	case len(s) > 512 || len(s)+len(p.s.Text) > 4096:
		return api.ErrLong
	case s == "":
		return api.OK
	}
	return p.edit(a(at, "", s))
}

func (p *plain) remove(at, n int) api.Errno {
	switch {
	case at < 0 || n < 0 || at > len(p.s.Text) || n > len(p.s.Text)-at:
		return api.ErrRange
	case !p.edge(at) || !p.edge(at+n):
		return api.ErrSplit
	case n > 512:
		return api.ErrLong
	case n == 0:
		return api.OK
	}
	return p.edit(a(at, p.s.Text[at:at+n], ""))
}

func (p *plain) edit(e api.Edit) api.Errno {
	if p.s.Open && len(p.s.Group) == 32 {
		return api.ErrMany
	}
	p.run(e)
	p.s.Redo = nil
	if p.s.Open {
		p.s.Group = append(p.s.Group, e)
	} else {
		p.s.Undo = pushed(p.s.Undo, of(e))
	}
	return api.OK
}

func (p *plain) mark(name string, at int) api.Errno {
	may := len(name) > 0 && len(name) <= 8
	for i := range len(name) {
		may = may && name[i] >= 'a' && name[i] <= 'z'
	}
	i, there := slices.BinarySearchFunc(p.s.Marks, name, func(m api.Mark, s string) int { return strings.Compare(m.Name, s) })
	switch {
	case !may:
		return api.ErrName
	case at < 0 || at > len(p.s.Text):
		return api.ErrRange
	case !p.edge(at):
		return api.ErrSplit
	case there:
		p.s.Marks[i].At = at
		return api.OK
	case len(p.s.Marks) == 16:
		return api.ErrMany
	}
	p.s.Marks = slices.Insert(p.s.Marks, i, api.Mark{Name: name, At: at})
	return api.OK
}

func (p *plain) turn(back bool) api.Errno {
	from, to := &p.s.Redo, &p.s.Undo
	if back {
		from, to = to, from
	}
	switch {
	case p.s.Open:
		return api.ErrState
	case len(*from) == 0:
		return api.ErrEmpty
	}
	last := (*from)[len(*from)-1]
	*from = (*from)[:len(*from)-1]
	*to = pushed(*to, last)
	for i := range last.Edits {
		if e := last.Edits[len(last.Edits)-1-i]; back {
			p.run(a(e.At, e.New, e.Old))
		} else {
			p.run(last.Edits[i])
		}
	}
	return api.OK
}

// run does an edit that can be done; the marks shift by it.
func (p *plain) run(e api.Edit) {
	till := e.At + len(e.Old)
	if p.s.Text[e.At:till] != e.Old {
		panic("the edit can't be done")
	}
	p.s.Text = p.s.Text[:e.At] + e.New + p.s.Text[till:]
	for i, m := range p.s.Marks {
		switch {
		case m.At <= e.At:
		case m.At >= till:
			p.s.Marks[i].At += len(e.New) - len(e.Old)
		default:
			p.s.Marks[i].At = e.At
		}
	}
}

// pushed is a stack with one step more, of which the last 16 are kept.
func pushed(l []api.Step, x api.Step) []api.Step {
	l = append(slices.Clone(l), x)
	return l[max(0, len(l)-16):]
}

// names are all that Find is asked for.
func names(s api.State) []string {
	l := []string{"", "a", "b", "A", "zz", "abcdefgh", "abcdefghi", three}
	for _, m := range s.Marks {
		l = append(l, m.Name, m.Name+"x")
	}
	return l
}

// wantHas holds all that is told of an editor against a state.
func wantHas(t *testing.T, what string, e *Editor, want api.State) {
	t.Helper()
	got := e.State()
	if !equal(got, want) {
		t.Fatalf("%s: State\n%s, want\n%s", what, told(got), told(want))
	}
	if !state.Right(got) {
		t.Fatalf("%s: the state is not right: %s", what, told(got))
	}
	if n := e.Len(); n != len(want.Text) {
		t.Fatalf("%s: Len %d, want %d", what, n, len(want.Text))
	}
	if r := e.Rope(); r.Text() != want.Text || !r.Right() {
		t.Fatalf("%s: Rope %.40q, %v, want %.40q", what, r.Text(), r.Right(), want.Text)
	}
	for _, name := range names(want) {
		place, there := 0, false
		for _, m := range want.Marks {
			if m.Name == name {
				place, there = m.At, true
			}
		}
		if at, ok := e.Find(name); at != place || ok != there {
			t.Fatalf("%s: Find %q: %d, %v, want %d, %v", what, name, at, ok, place, there)
		}
	}
}

// loaded is an editor that has a state.
func loaded(t *testing.T, s api.State) *Editor {
	t.Helper()
	e, err := Load(s)
	if e == nil || err != api.OK {
		t.Fatalf("Load(%s): %v, %s", told(s), e, api.Text(err))
	}
	return e
}

// wantDo holds an operation against what it is to tell, and what it is to leave; without an error that named it is as it was.
func wantDo(t *testing.T, e *Editor, x api.Op, err api.Errno, want api.State) {
	t.Helper()
	what := fmt.Sprintf("%d %d %d %.12q", x.Kind, x.At, x.N, x.S)
	if got := e.Do(x); got != err {
		t.Fatalf("%s: %s, want %s", what, api.Text(got), api.Text(err))
	}
	wantHas(t, what, e, want)
}

// follow does an operation by an editor, and by plain means.
func follow(t *testing.T, e *Editor, p *plain, x api.Op) api.Errno {
	t.Helper()
	was := deep(p.s)
	err := p.do(x)
	if err != api.OK && !equal(was, p.s) {
		t.Fatal("the plain means change something beside an error")
	}
	wantDo(t, e, x, err, p.s)
	return err
}

func TestNew(t *testing.T) { // P26.1
	e, other := New(), New()
	if e == nil || e == other {
		t.Fatalf("New: %p, %p", e, other)
	}
	wantHas(t, "New", e, api.State{})
	wantDo(t, e, insert(0, "ab"), api.OK, api.State{Text: "ab", Undo: lay(of(a(0, "", "ab")))})
	wantHas(t, "another one", other, api.State{})
	wantHas(t, "a later one", New(), api.State{})
}

func TestExample(t *testing.T) { // the chapter's example
	e := New()
	for _, x := range []api.Op{insert(0, "ab"), remove(0, 1), undo} {
		if err := e.Do(x); err != api.OK {
			t.Fatal(api.Text(err))
		}
	}
	if s := e.State().Text; s != "ab" {
		t.Fatalf("%q", s)
	}
}

// someStates are states that are right.
func someStates() []api.State {
	x := a(0, "", "x")
	return []api.State{
		{},
		{Open: true},
		{Text: "a" + two + three + four + "\n\x00", Marks: at(0, 1, 3, 6, 10, 12)},
		{Text: xs(4096), Marks: at(make([]int, 16)...), Undo: each(16), Redo: lay(of(a(4095, "x", "y")))},
		{Text: xs(48), Undo: each(16), Open: true, Group: put(32)},
		{Text: "x", Undo: lay(of(x)), Redo: lay(of(a(0, "x", "")))},
		{Text: "x", Undo: lay(of(x)), Redo: lay(of(a(0, "x", ""))), Open: true},
		{Text: "yx", Marks: at(2, 1), Undo: lay(of(x)), Open: true, Group: group(a(0, "", "y"))},
		{Text: "abc", Marks: at(0, 1, 2, 3), Undo: lay(of(a(0, three, "b"), a(0, "", "a"))), Redo: lay(of(a(0, "ab", three), a(3, "c", "")))},
		{Text: xs(512), Undo: lay(of(put(32)...)), Redo: lay(of(a(0, xs(512), strings.Repeat(two, 256))))},
	}
}

func TestLoad(t *testing.T) { // P26.1
	for i, s := range someStates() {
		e := loaded(t, s)
		wantHas(t, fmt.Sprint("state ", i), e, s)
		// what is told is loaded again
		wantHas(t, fmt.Sprint("state ", i, " again"), loaded(t, e.State()), s)
	}
	x := a(0, "", "x")
	for _, c := range []struct {
		what string
		s    api.State
	}{
		{"bytes that are no runes", api.State{Text: "a\xff"}},
		{"a long text", api.State{Text: xs(4097)}},
		{"a mark within a rune", api.State{Text: three, Marks: at(1)}},
		{"a mark behind the text", api.State{Text: "a", Marks: at(2)}},
		{"a mark's name", api.State{Marks: []api.Mark{{Name: "A"}}}},
		{"names that do not rise", api.State{Marks: []api.Mark{{Name: "b"}, {Name: "a"}}}},
		{"marks", api.State{Marks: at(make([]int, 17)...)}},
		{"what can't be undone", api.State{Text: "y", Undo: lay(of(x))}},
		{"steps to undo", api.State{Text: xs(17), Undo: each(17)}},
		{"what can't be redone", api.State{Redo: lay(of(a(0, "x", "")))}},
		{"steps to redo", api.State{Redo: each(17)}},
		{"a step without edits", api.State{Undo: lay(of())}},
		{"edits of a step", api.State{Text: xs(33), Undo: lay(of(put(33)...))}},
		{"a group that is not open", api.State{Text: "x", Group: put(1)}},
		{"a group that can't be taken back", api.State{Open: true, Group: put(1)}},
		{"edits of a group", api.State{Text: xs(33), Open: true, Group: put(33)}},
		{"redo beside a group", api.State{Text: "x", Open: true, Group: put(1), Redo: lay(of(x))}},
		{"a long edit", api.State{Text: xs(513), Undo: lay(of(a(0, "", xs(513))))}},
		{"an edit of nothing", api.State{Undo: lay(of(a(0, "", "")))}},
		{"places at the ints' ends", api.State{Marks: at(math.MinInt), Undo: lay(of(a(math.MaxInt, "", "x")))}},
	} {
		if e, err := Load(c.s); e != nil || err != api.ErrForm {
			t.Fatalf("%s: Load: %v, %s", c.what, e, api.Text(err))
		}
	}
}

func TestUnmade(t *testing.T) { // P26.1, P26.2, R5
	var none *Editor
	for _, e := range []*Editor{none, {}, new(Editor)} {
		for kind := -1; kind < 11; kind++ {
			for _, x := range []api.Op{{Kind: kind}, {Kind: kind, S: "a"}, {Kind: kind, At: -1, N: -1, S: "\xff"}} {
				if err := e.Do(x); err != api.ErrMade {
					t.Fatalf("Do %v: %s", x, api.Text(err))
				}
			}
		}
		if s := e.State(); !equal(s, api.State{}) {
			t.Fatalf("State: %s", told(s))
		}
		if n, r := e.Len(), e.Rope(); n != 0 || r != nil {
			t.Fatalf("Len %d, Rope %v", n, r)
		}
		for _, name := range names(api.State{}) {
			if at, ok := e.Find(name); at != 0 || ok {
				t.Fatalf("Find %q: %d, %v", name, at, ok)
			}
		}
	}
}

func TestKindsThatAreNone(t *testing.T) { // P26.2
	for _, s := range someStates() {
		e := loaded(t, s)
		for _, kind := range []int{0, -1, 9, 10, 256, 257, math.MinInt, math.MaxInt, math.MaxInt - 7} {
			for _, x := range []api.Op{{Kind: kind}, {Kind: kind, S: "a"}, {Kind: kind, At: -1, N: 1, S: "A"}} {
				wantDo(t, e, x, api.ErrArg, s)
			}
		}
	}
}

func TestInsert(t *testing.T) { // P26.2
	s := api.State{Text: "a" + three + "b", Marks: at(0, 1, 4, 5), Undo: lay(of(a(0, "", "a"))), Redo: lay(of(a(4, "b", "")))}
	for _, c := range []struct {
		x   api.Op
		err api.Errno
	}{
		{insert(-1, "x"), api.ErrRange},
		{insert(6, "x"), api.ErrRange},
		{insert(math.MinInt, "x"), api.ErrRange},
		{insert(math.MaxInt, "x"), api.ErrRange},
		{insert(6, "\xff"), api.ErrRange},
		{insert(-1, xs(5000)), api.ErrRange},
		{insert(6, ""), api.ErrRange},
		{insert(2, "x"), api.ErrSplit},
		{insert(3, "x"), api.ErrSplit},
		{insert(2, "\xff"), api.ErrSplit},
		{insert(2, xs(5000)), api.ErrSplit},
		{insert(2, ""), api.ErrSplit},
		{insert(1, "\xff"), api.ErrForm},
		{insert(1, three[:2]), api.ErrForm},
		{insert(1, "\xed\xa0\x80"), api.ErrForm},
		{insert(1, xs(513)+"\xff"), api.ErrForm},
		{insert(1, xs(5000)+"\xff"), api.ErrForm},
		{insert(1, xs(513)), api.ErrLong},
		{insert(1, strings.Repeat(three, 171)), api.ErrLong},
		{insert(1, xs(4091)), api.ErrLong},
		{insert(1, xs(5000)), api.ErrLong},
		{insert(1, ""), api.OK},
		{insert(5, ""), api.OK},
		{api.Op{Kind: api.OpInsert, At: 4, N: -1}, api.OK},
	} {
		wantDo(t, loaded(t, s), c.x, c.err, s)
	}
	wantDo(t, loaded(t, s), insert(1, "xy"), api.OK, api.State{Text: "axy" + three + "b", Marks: at(0, 1, 6, 7), Undo: lay(of(a(0, "", "a")), of(a(1, "", "xy")))})
	wantDo(t, loaded(t, s), insert(5, four), api.OK, api.State{Text: "a" + three + "b" + four, Marks: at(0, 1, 4, 5), Undo: lay(of(a(0, "", "a")), of(a(5, "", four)))})
	long := xs(512)
	wantDo(t, loaded(t, s), insert(0, long), api.OK, api.State{Text: long + s.Text, Marks: at(0, 513, 516, 517), Undo: lay(of(a(0, "", "a")), of(a(0, "", long)))})

	full := api.State{Text: xs(4000), Open: true}
	wantDo(t, loaded(t, full), insert(0, xs(97)), api.ErrLong, full)
	wantDo(t, loaded(t, full), insert(0, xs(96)), api.OK, api.State{Text: xs(4096), Open: true, Group: group(a(0, "", xs(96)))})
}

func TestDelete(t *testing.T) { // P26.2
	s := api.State{Text: "a" + three + "b", Marks: at(0, 1, 4, 5), Undo: lay(of(a(0, "", "a"))), Redo: lay(of(a(4, "b", "")))}
	for _, c := range []struct {
		x   api.Op
		err api.Errno
	}{
		{remove(-1, 1), api.ErrRange},
		{remove(6, 0), api.ErrRange},
		{remove(5, 1), api.ErrRange},
		{remove(0, 6), api.ErrRange},
		{remove(0, -1), api.ErrRange},
		{remove(2, 4), api.ErrRange},
		{remove(math.MinInt, math.MaxInt), api.ErrRange},
		{remove(math.MaxInt, math.MaxInt), api.ErrRange},
		{remove(1, math.MaxInt), api.ErrRange},
		{remove(1, math.MinInt), api.ErrRange},
		{remove(0, 1000), api.ErrRange},
		{remove(2, 0), api.ErrSplit},
		{remove(2, 2), api.ErrSplit},
		{remove(0, 2), api.ErrSplit},
		{remove(0, 0), api.OK},
		{remove(5, 0), api.OK},
		{api.Op{Kind: api.OpDelete, At: 1, S: "\xff"}, api.OK},
	} {
		wantDo(t, loaded(t, s), c.x, c.err, s)
	}
	wantDo(t, loaded(t, s), remove(1, 3), api.OK, api.State{Text: "ab", Marks: at(0, 1, 1, 2), Undo: lay(of(a(0, "", "a")), of(a(1, three, "")))})
	wantDo(t, loaded(t, s), remove(0, 5), api.OK, api.State{Marks: at(0, 0, 0, 0), Undo: lay(of(a(0, "", "a")), of(a(0, s.Text, "")))})

	long := api.State{Text: strings.Repeat(two, 2048), Marks: at(2, 400, 512, 514, 516, 4096)}
	wantDo(t, loaded(t, long), remove(2, 514), api.ErrLong, long)
	wantDo(t, loaded(t, long), remove(0, 4096), api.ErrLong, long)
	wantDo(t, loaded(t, long), remove(1, 514), api.ErrSplit, long)
	wantDo(t, loaded(t, long), remove(2, 513), api.ErrSplit, long)
	wantDo(t, loaded(t, long), remove(3, 4094), api.ErrRange, long)
	wantDo(t, loaded(t, long), remove(2, 512), api.OK, api.State{Text: strings.Repeat(two, 1792), Marks: at(2, 2, 2, 2, 4, 3584), Undo: lay(of(a(2, strings.Repeat(two, 256), "")))})
}

func TestMark(t *testing.T) { // P26.2
	s := api.State{Text: "a" + three, Marks: at(0, 1), Undo: lay(of(a(0, "", "a"))), Redo: lay(of(a(0, "a", "")))}
	for _, c := range []struct {
		x   api.Op
		err api.Errno
	}{
		{mark("", 9), api.ErrName},
		{mark("A", 9), api.ErrName},
		{mark("A", 2), api.ErrName},
		{mark("abcdefghi", 0), api.ErrName},
		{mark("a ", 0), api.ErrName},
		{mark("\xff", 0), api.ErrName},
		{mark(two, 0), api.ErrName},
		{mark("c", -1), api.ErrRange},
		{mark("c", 5), api.ErrRange},
		{mark("a", 5), api.ErrRange},
		{mark("c", math.MinInt), api.ErrRange},
		{mark("c", math.MaxInt), api.ErrRange},
		{mark("c", 2), api.ErrSplit},
		{mark("a", 3), api.ErrSplit},
		{mark("b", 1), api.OK},
		{unmark("c"), api.ErrNone},
		{unmark(""), api.ErrNone},
		{unmark("A"), api.ErrNone},
		{unmark("abcdefghi"), api.ErrNone},
		{unmark("\xff"), api.ErrNone},
	} {
		wantDo(t, loaded(t, s), c.x, c.err, s)
	}
	with := func(l ...api.Mark) api.State {
		s := deep(s)
		s.Marks = l
		return s
	}
	wantDo(t, loaded(t, s), mark("a", 4), api.OK, with(api.Mark{Name: "a", At: 4}, api.Mark{Name: "b", At: 1}))
	wantDo(t, loaded(t, s), mark("aa", 4), api.OK, with(api.Mark{Name: "a"}, api.Mark{Name: "aa", At: 4}, api.Mark{Name: "b", At: 1}))
	wantDo(t, loaded(t, s), mark("abcdefgh", 0), api.OK, with(api.Mark{Name: "a"}, api.Mark{Name: "abcdefgh"}, api.Mark{Name: "b", At: 1}))
	wantDo(t, loaded(t, s), unmark("a"), api.OK, with(api.Mark{Name: "b", At: 1}))
	wantDo(t, loaded(t, s), api.Op{Kind: api.OpUnmark, At: -1, N: -1, S: "b"}, api.OK, with(api.Mark{Name: "a"}))

	full := api.State{Text: three, Marks: at(make([]int, 16)...)}
	wantDo(t, loaded(t, full), mark("zz", 0), api.ErrMany, full)
	wantDo(t, loaded(t, full), mark("zz", 1), api.ErrSplit, full)
	wantDo(t, loaded(t, full), mark("zz", 4), api.ErrRange, full)
	moved := deep(full)
	moved.Marks[15].At = 3
	wantDo(t, loaded(t, full), mark("p", 3), api.OK, moved)
	wantDo(t, loaded(t, full), unmark("p"), api.OK, api.State{Text: three, Marks: full.Marks[:15]})
}

func TestUndoAndRedo(t *testing.T) { // P26.2
	for _, s := range []api.State{{}, {Text: "ab", Marks: at(1)}} {
		wantDo(t, loaded(t, s), undo, api.ErrEmpty, s)
		wantDo(t, loaded(t, s), redo, api.ErrEmpty, s)
	}
	one, other := of(a(0, "", "a"), a(1, "", "b"+three)), of(a(1, "b"+three, two), a(0, "a", ""))
	marked := at(0, 1, 3)
	e := loaded(t, api.State{Text: two, Marks: at(0, 0, 2), Undo: lay(one, other)})
	wantDo(t, e, redo, api.ErrEmpty, api.State{Text: two, Marks: at(0, 0, 2), Undo: lay(one, other)})
	// first the a comes again, with marks at its place left there, then what stood at 1
	wantDo(t, e, undo, api.OK, api.State{Text: "ab" + three, Marks: at(0, 0, 5), Undo: lay(one), Redo: lay(other)})
	wantDo(t, e, undo, api.OK, api.State{Marks: at(0, 0, 0), Redo: lay(other, one)})
	wantDo(t, e, undo, api.ErrEmpty, api.State{Marks: at(0, 0, 0), Redo: lay(other, one)})
	wantDo(t, e, redo, api.OK, api.State{Text: "ab" + three, Marks: at(0, 0, 0), Undo: lay(one), Redo: lay(other)})
	wantDo(t, e, mark("b", 1), api.OK, api.State{Text: "ab" + three, Marks: at(0, 1, 0), Undo: lay(one), Redo: lay(other)})
	wantDo(t, e, mark("c", 5), api.OK, api.State{Text: "ab" + three, Marks: at(0, 1, 5), Undo: lay(one), Redo: lay(other)})
	wantDo(t, e, redo, api.OK, api.State{Text: two, Marks: at(0, 0, 2), Undo: lay(one, other)})
	// what lies in the step is not shifted at once: the marks go with each edit
	e = loaded(t, api.State{Text: "abc", Marks: marked, Redo: lay(of(a(1, "bc", ""), a(0, "a", "bc"), a(2, "", "a")))})
	wantDo(t, e, redo, api.OK, api.State{Text: "bca", Marks: at(0, 2, 2), Undo: lay(of(a(1, "bc", ""), a(0, "a", "bc"), a(2, "", "a")))})
	wantDo(t, e, undo, api.OK, api.State{Text: "abc", Marks: at(0, 1, 1), Redo: lay(of(a(1, "bc", ""), a(0, "a", "bc"), a(2, "", "a")))})
	// an edit empties Redo, a mark does not
	wantDo(t, e, unmark("b"), api.OK, api.State{Text: "abc", Marks: []api.Mark{{Name: "a"}, {Name: "c", At: 1}}, Redo: lay(of(a(1, "bc", ""), a(0, "a", "bc"), a(2, "", "a")))})
	wantDo(t, e, remove(2, 1), api.OK, api.State{Text: "ab", Marks: []api.Mark{{Name: "a"}, {Name: "c", At: 1}}, Undo: lay(of(a(2, "c", "")))})
	// what the kind has not
	e = loaded(t, api.State{Text: "x", Undo: each(1)})
	wantDo(t, e, api.Op{Kind: api.OpUndo, At: -1, N: -1, S: "\xff"}, api.OK, api.State{Redo: each(1)})
	wantDo(t, e, api.Op{Kind: api.OpRedo, At: 9, N: math.MaxInt, S: xs(999)}, api.OK, api.State{Text: "x", Undo: each(1)})
}

func TestStacksThatAreFull(t *testing.T) { // P26.2, chapter 24
	e := New()
	var steps []api.Step
	for i := range 20 {
		s := string(rune('a' + i))
		steps = pushed(steps, of(a(i, "", s)))
		text := "abcdefghijklmnopqrst"[:i+1]
		wantDo(t, e, insert(i, s), api.OK, api.State{Text: text, Undo: steps})
	}
	for range 16 {
		if err := e.Do(undo); err != api.OK {
			t.Fatal(api.Text(err))
		}
	}
	back := slices.Clone(steps)
	slices.Reverse(back)
	wantDo(t, e, undo, api.ErrEmpty, api.State{Text: "abcd", Redo: back})
	for range 16 {
		if err := e.Do(redo); err != api.OK {
			t.Fatal(api.Text(err))
		}
	}
	wantDo(t, e, redo, api.ErrEmpty, api.State{Text: "abcdefghijklmnopqrst", Undo: steps})

	// both are full: of what is pushed the lowest step goes
	both := api.State{Text: xs(16), Undo: each(16), Redo: each(16)}
	both.Redo[0] = of(a(0, "x", ""))
	e = loaded(t, both)
	wantDo(t, e, undo, api.OK, api.State{Text: xs(15), Undo: each(15), Redo: each(16)})
	e = loaded(t, both)
	wantDo(t, e, redo, api.OK, api.State{Text: xs(17), Undo: each(16), Redo: both.Redo[:15]})
}

func TestGroup(t *testing.T) { // P26.2
	e := New()
	wantDo(t, e, end, api.ErrState, api.State{})
	wantDo(t, e, begin, api.OK, api.State{Open: true})
	for _, x := range []api.Op{begin, undo, redo} {
		wantDo(t, e, x, api.ErrState, api.State{Open: true})
	}
	wantDo(t, e, end, api.OK, api.State{})
	wantDo(t, e, api.Op{Kind: api.OpBegin, At: -1, N: -1, S: "\xff"}, api.OK, api.State{Open: true})
	wantDo(t, e, insert(0, "ab"), api.OK, api.State{Text: "ab", Open: true, Group: group(a(0, "", "ab"))})
	wantDo(t, e, mark("a", 1), api.OK, api.State{Text: "ab", Marks: at(1), Open: true, Group: group(a(0, "", "ab"))})
	two := group(a(0, "", "ab"), a(0, "a", ""))
	wantDo(t, e, remove(0, 1), api.OK, api.State{Text: "b", Marks: at(0), Open: true, Group: two})
	for _, x := range []api.Op{begin, undo, redo} {
		wantDo(t, e, x, api.ErrState, api.State{Text: "b", Marks: at(0), Open: true, Group: two})
	}
	wantDo(t, e, insert(0, ""), api.OK, api.State{Text: "b", Marks: at(0), Open: true, Group: two})
	wantDo(t, e, remove(1, 0), api.OK, api.State{Text: "b", Marks: at(0), Open: true, Group: two})
	wantDo(t, e, api.Op{Kind: api.OpEnd, At: -1, N: -1, S: "\xff"}, api.OK, api.State{Text: "b", Marks: at(0), Undo: lay(of(two...))})
	wantDo(t, e, end, api.ErrState, api.State{Text: "b", Marks: at(0), Undo: lay(of(two...))})
	wantDo(t, e, undo, api.OK, api.State{Marks: at(0), Redo: lay(of(two...))})
	// a group without edits leaves what can be redone, one with some does not
	wantDo(t, e, begin, api.OK, api.State{Marks: at(0), Redo: lay(of(two...)), Open: true})
	for _, x := range []api.Op{undo, redo} {
		wantDo(t, e, x, api.ErrState, api.State{Marks: at(0), Redo: lay(of(two...)), Open: true})
	}
	wantDo(t, e, end, api.OK, api.State{Marks: at(0), Redo: lay(of(two...))})
	wantDo(t, e, redo, api.OK, api.State{Text: "b", Marks: at(0), Undo: lay(of(two...))})
	wantDo(t, e, undo, api.OK, api.State{Marks: at(0), Redo: lay(of(two...))})
	wantDo(t, e, begin, api.OK, api.State{Marks: at(0), Redo: lay(of(two...)), Open: true})
	wantDo(t, e, insert(0, "c"), api.OK, api.State{Text: "c", Marks: at(0), Open: true, Group: group(a(0, "", "c"))})
}

func TestGroupThatIsFull(t *testing.T) { // P26.2
	e := New()
	if err := e.Do(begin); err != api.OK {
		t.Fatal(api.Text(err))
	}
	for n := range 32 {
		wantDo(t, e, insert(0, "x"), api.OK, api.State{Text: xs(n + 1), Open: true, Group: put(n + 1)})
	}
	full := api.State{Text: xs(32), Open: true, Group: put(32)}
	for _, c := range []struct {
		x   api.Op
		err api.Errno
	}{
		{insert(0, "x"), api.ErrMany},
		{remove(0, 1), api.ErrMany},
		{insert(33, "x"), api.ErrRange},
		{insert(0, "\xff"), api.ErrForm},
		{insert(0, xs(513)), api.ErrLong},
		{insert(0, xs(4096)), api.ErrLong},
		{remove(0, 33), api.ErrRange},
		{insert(0, ""), api.OK},
		{remove(32, 0), api.OK},
	} {
		wantDo(t, e, c.x, c.err, full)
	}
	long := api.State{Text: xs(600), Open: true, Group: put(32)}
	wantDo(t, loaded(t, long), remove(0, 513), api.ErrLong, long)
	wantDo(t, loaded(t, long), remove(0, 512), api.ErrMany, long)
	wantDo(t, e, mark("a", 1), api.OK, api.State{Text: xs(32), Marks: at(1), Open: true, Group: put(32)})
	wantDo(t, e, end, api.OK, api.State{Text: xs(32), Marks: at(1), Undo: lay(of(put(32)...))})
	wantDo(t, e, insert(0, "x"), api.OK, api.State{Text: xs(33), Marks: at(2), Undo: lay(of(put(32)...), of(put(1)...))})
	wantDo(t, e, undo, api.OK, api.State{Text: xs(32), Marks: at(1), Undo: lay(of(put(32)...)), Redo: each(1)})
	wantDo(t, e, undo, api.OK, api.State{Marks: at(0), Redo: lay(of(put(1)...), of(put(32)...))})
}

// few are operations of a small text, that may be and that may not.
func few() []api.Op {
	return []api.Op{
		insert(0, "a"), insert(1, three), remove(0, 1), remove(1, 3), insert(2, ""),
		mark("a", 1), mark("b", 4), unmark("a"), undo, redo, begin, end,
	}
}

func TestAllShortScripts(t *testing.T) { // P26.2, P26.3
	const deepest = 4
	var went func(e *Editor, p plain, left int)
	went = func(e *Editor, p plain, left int) {
		for _, x := range few() {
			next, q := loaded(t, e.State()), plain{deep(p.s)}
			follow(t, next, &q, x)
			if left > 1 {
				went(next, q, left-1)
			}
		}
	}
	for _, s := range []api.State{{}, {Text: "a" + three, Marks: at(1), Undo: lay(of(a(0, "x", "a"))), Redo: lay(of(a(1, three, "b")))}} {
		went(loaded(t, s), plain{deep(s)}, deepest-1)
	}
	went(New(), plain{}, deepest)
}

// drawn is an operation, that may be for the most part.
func drawn(r *rand.Rand, s api.State) api.Op {
	place := func() int {
		switch r.Intn(30) {
		case 0:
			return []int{-1, len(s.Text) + 1, math.MinInt, math.MaxInt, 4096, 4097}[r.Intn(6)]
		case 1:
			return len(s.Text)
		}
		return r.Intn(len(s.Text) + 1)
	}
	name := func() string {
		if r.Intn(20) == 0 {
			return []string{"", "A", "abcdefghi", "\xff", three}[r.Intn(5)]
		}
		return []string{"abcdefgh", "a", "aa", "z", string(rune('a' + r.Intn(26)))}[r.Intn(5)]
	}
	x := api.Op{Kind: 1 + r.Intn(8), At: place(), S: name()}
	switch x.Kind {
	case api.OpInsert:
		s := []string{"", "a", "bc\n", two, three, four, xs(512), xs(513), "\xff", strings.Repeat(four, 100)}[r.Intn(10)]
		x.S = strings.Repeat(s, 1+r.Intn(2)*r.Intn(3))
	case api.OpDelete:
		x.N = []int{0, 1, 2, 3, 4, 5, 7, 512, 513, -1, len(s.Text) - x.At, math.MaxInt}[r.Intn(12)]
	case api.OpBegin, api.OpEnd:
		if r.Intn(4) > 0 {
			x.Kind = api.OpInsert
		}
	}
	return x
}

func TestDrawnScripts(t *testing.T) { // P26.2, P26.3
	r := rand.New(rand.NewSource(26))
	count := map[api.Errno]int{}
	for range 200 {
		states := someStates()
		s := states[r.Intn(len(states))]
		e, p := loaded(t, s), &plain{deep(s)}
		for range 200 {
			count[follow(t, e, p, drawn(r, p.s))]++
		}
	}
	for _, err := range []api.Errno{api.OK, api.ErrRange, api.ErrSplit, api.ErrForm, api.ErrLong, api.ErrName, api.ErrNone, api.ErrMany, api.ErrEmpty, api.ErrState} {
		if count[err] < 20 {
			t.Fatalf("%s came %d times", api.Text(err), count[err])
		}
	}
}

func TestWhatAKindHasNot(t *testing.T) { // P26.2
	r := rand.New(rand.NewSource(27))
	for range 2000 {
		states := someStates()
		s := states[r.Intn(len(states))]
		x := drawn(r, s)
		p := &plain{deep(s)}
		other := x
		junk := api.Op{At: r.Intn(9) - 4, N: r.Intn(9) - 4, S: []string{"", "a", "\xff", xs(5000)}[r.Intn(4)]}
		switch x.Kind {
		case api.OpInsert:
			other.N = junk.N
		case api.OpDelete:
			other.S = junk.S
		case api.OpMark:
			other.N = junk.N
		case api.OpUnmark:
			other.At, other.N = junk.At, junk.N
		default:
			other.At, other.N, other.S = junk.At, junk.N, junk.S
		}
		err := p.do(x)
		wantDo(t, loaded(t, s), x, err, p.s)
		wantDo(t, loaded(t, s), other, err, p.s)
	}
}

func TestBackAndForth(t *testing.T) { // P26.3
	r := rand.New(rand.NewSource(28))
	turned := 0
	for range 200 {
		e := New()
		for range 100 {
			was := e.State()
			x := drawn(r, was)
			if err := e.Do(x); err != api.OK || was.Open || x.Kind > api.OpDelete || x.Kind == api.OpInsert && x.S == "" || x.Kind == api.OpDelete && x.N == 0 {
				continue
			}
			behind := e.State()
			if err := e.Do(undo); err != api.OK || e.State().Text != was.Text {
				t.Fatalf("Undo: %s, %.40q, want %.40q", api.Text(err), e.State().Text, was.Text)
			}
			if err := e.Do(redo); err != api.OK || e.State().Text != behind.Text {
				t.Fatalf("Redo: %s, %.40q, want %.40q", api.Text(err), e.State().Text, behind.Text)
			}
			turned++
		}
	}
	if turned < 1000 {
		t.Fatalf("%d edits were taken back", turned)
	}
}

func TestMemoryOfStates(t *testing.T) { // R3
	for i, s := range someStates() {
		given := deep(s)
		e := loaded(t, given)
		if !equal(given, s) {
			t.Fatalf("state %d: what was handed in is changed", i)
		}
		spoil(given)
		wantHas(t, "what was handed in is spoilt", e, s)
		one, other := e.State(), e.State()
		spoil(one)
		if !equal(other, s) {
			t.Fatalf("state %d: two answers share memory", i)
		}
		wantHas(t, "an answer is spoilt", e, s)
		// behind each answer the next operations do as if there had been none
		p := &plain{deep(s)}
		for _, x := range []api.Op{end, insert(0, "a"), begin, insert(0, "b"), remove(0, 1), mark("a", 0), mark("q", 0), end, undo, undo, redo, unmark("a")} {
			spoil(e.State())
			follow(t, e, p, x)
		}
	}
}

func TestWhatWasToldStays(t *testing.T) { // R3
	r := rand.New(rand.NewSource(29))
	type answer struct {
		got, want api.State
		rope      *rope.Rope
	}
	for range 20 {
		e := New()
		var answers []answer
		for range 100 {
			e.Do(drawn(r, e.State()))
			s := e.State()
			answers = append(answers, answer{s, deep(s), e.Rope()})
		}
		for _, x := range answers {
			if !equal(x.got, x.want) || x.rope.Text() != x.want.Text {
				t.Fatalf("%s is now %s, the rope %.40q", told(x.want), told(x.got), x.rope.Text())
			}
		}
	}
}

func TestEditorsOfOneState(t *testing.T) { // R4
	r := rand.New(rand.NewSource(30))
	for range 20 {
		e := New()
		for range 100 {
			other := loaded(t, e.State())
			x := drawn(r, e.State())
			err := e.Do(x)
			wantDo(t, other, x, err, e.State())
		}
	}
}
