package replay

import (
	"fmt"
	"iter"
	"math"
	"math/rand"
	"slices"
	"strings"
	"testing"

	"stylus/api"
	"stylus/editor"
	"stylus/opcode"
	"stylus/state"
)

// Runes of two to four bytes.
const (
	two   = "\u00e9"
	three = "\u20ac"
	four  = "\U0001f600"
)

// Operations, in one word each.
var (
	undo   = api.Op{Kind: api.OpUndo}
	redo   = api.Op{Kind: api.OpRedo}
	begin  = api.Op{Kind: api.OpBegin}
	finish = api.Op{Kind: api.OpEnd}
)

func insert(at int, s string) api.Op  { return api.Op{Kind: api.OpInsert, At: at, S: s} }
func remove(at, n int) api.Op         { return api.Op{Kind: api.OpDelete, At: at, N: n} }
func mark(name string, at int) api.Op { return api.Op{Kind: api.OpMark, At: at, S: name} }
func unmark(name string) api.Op       { return api.Op{Kind: api.OpUnmark, S: name} }

// a is an edit, in one word.
func a(at int, old, new string) api.Edit { return api.Edit{At: at, Old: old, New: new} }

// of is a step of those edits, in one word.
func of(l ...api.Edit) api.Step { return api.Step{Edits: l} }

// lay are those steps, in one word.
func lay(l ...api.Step) []api.Step { return l }

// ops are those operations, in one word.
func ops(l ...api.Op) []api.Op { return l }

// at are marks with the names a, b, .. at those places.
func at(places ...int) []api.Mark {
	var l []api.Mark
	for i, p := range places {
		l = append(l, api.Mark{Name: string(rune('a' + i)), At: p})
	}
	return l
}

// xs is a text of so many x.
func xs(n int) string { return strings.Repeat("x", n) }

// put are so many edits that put an x each at a text's begin.
func put(n int) []api.Edit { return slices.Repeat([]api.Edit{a(0, "", "x")}, n) }

// each are so many steps of one edit, that puts an x at a text's begin.
func each(n int) []api.Step { return slices.Repeat(lay(of(put(1)...)), n) }

// someStates are states that are right.
func someStates() []api.State {
	x := a(0, "", "x")
	return []api.State{
		{},
		{Open: true},
		{Text: "a" + two + three + four + "\n\x00", Marks: at(0, 1, 3, 6, 10, 12)},
		{Text: xs(4096), Marks: at(make([]int, 16)...), Undo: each(16), Redo: lay(of(a(4095, "x", "y")))},
		{Text: xs(16), Undo: each(16), Redo: each(16)},
		{Text: xs(48), Undo: each(16), Open: true, Group: put(32)},
		{Text: "x", Undo: lay(of(x)), Redo: lay(of(a(0, "x", ""))), Open: true},
		{Text: "yx", Marks: at(2, 1), Undo: lay(of(x)), Open: true, Group: []api.Edit{a(0, "", "y")}},
		{Text: "abc", Marks: at(0, 1, 2, 3), Undo: lay(of(a(0, three, "b"), a(0, "", "a"))), Redo: lay(of(a(0, "ab", three), a(3, "c", "")))},
		{Text: xs(512), Undo: lay(of(put(32)...)), Redo: lay(of(a(0, xs(512), strings.Repeat(two, 256))))},
	}
}

// wrongStates are states that are not right, each for another reason.
func wrongStates() []api.State {
	x := a(0, "", "x")
	return []api.State{
		{Text: "a\xff"},
		{Text: xs(4097)},
		{Text: three, Marks: at(1)},
		{Text: "a", Marks: at(2)},
		{Marks: []api.Mark{{Name: "A"}}},
		{Marks: []api.Mark{{Name: "b"}, {Name: "a"}}},
		{Text: "y", Undo: lay(of(x))},
		{Redo: lay(of(a(0, "x", "")))},
		{Undo: lay(of())},
		{Text: xs(33), Undo: lay(of(put(33)...))},
		{Text: "x", Group: put(1)},
		{Open: true, Group: put(1)},
		{Text: "x", Open: true, Group: put(1), Redo: lay(of(x))},
		{Text: xs(513), Undo: lay(of(a(0, "", xs(513))))},
		{Undo: lay(of(a(0, "", "")))},
		{Marks: at(math.MinInt), Undo: lay(of(a(math.MaxInt, "", "x")))},
	}
}

// framed are the operations as frames.
func framed(t *testing.T, l []api.Op) []api.Frame {
	t.Helper()
	var frames []api.Frame
	for i, x := range l {
		s, err := opcode.Bytes(x)
		if err != api.OK {
			t.Fatalf("Bytes(%v): %s", x, api.Text(err))
		}
		frames = append(frames, api.Frame{Epoch: 1, Seq: i, Data: s})
	}
	return frames
}

// told is a state as text, cut short.
func told(s api.State) string {
	edits := func(l []api.Edit) string {
		var b strings.Builder
		fmt.Fprintf(&b, "[%d:", len(l))
		for _, e := range l[:min(len(l), 3)] {
			fmt.Fprintf(&b, " %d %.12q %.12q", e.At, e.Old, e.New)
		}
		return b.String() + "]"
	}
	var b strings.Builder
	fmt.Fprintf(&b, "%d bytes %.40q, marks %v", len(s.Text), s.Text, s.Marks)
	for _, l := range [][]api.Step{s.Undo, s.Redo} {
		fmt.Fprintf(&b, ", %d steps", len(l))
		for _, x := range l {
			b.WriteString(" " + edits(x.Edits))
		}
	}
	fmt.Fprintf(&b, ", %v %s", s.Open, edits(s.Group))
	return b.String()
}

// spoil changes all that stands in a state's lists, and in the room behind their ends.
func spoil(s api.State) {
	edits := func(l []api.Edit) {
		for i := range l[:cap(l)] {
			l[:cap(l)][i] = a(-7, "spoilt", "too")
		}
	}
	for i := range s.Marks[:cap(s.Marks)] {
		s.Marks[:cap(s.Marks)][i] = api.Mark{Name: "spoilt", At: -7}
	}
	for _, l := range [][]api.Step{s.Undo, s.Redo} {
		for i := range l[:cap(l)] {
			edits(l[:cap(l)][i].Edits)
			l[:cap(l)][i] = of(a(-7, "", ""))
		}
	}
	edits(s.Group)
}

// result is what Run and Frames answer.
type result struct {
	s   api.State
	n   int
	err api.Errno
}

func run(s api.State, l []api.Op) result {
	end, n, err := Run(s, l)
	return result{end, n, err}
}

func frames(s api.State, l []api.Frame) result {
	end, n, err := Frames(s, l)
	return result{end, n, err}
}

// want holds what was answered against what should be.
func want(t *testing.T, what string, got, want result) {
	t.Helper()
	if !state.Same(got.s, want.s) || got.n != want.n || got.err != want.err {
		t.Fatalf("%s: %d, %s,\n%s, want %d, %s,\n%s", what, got.n, api.Text(got.err), told(got.s), want.n, api.Text(want.err), told(want.s))
	}
}

// wantStates holds what an iterator tells against what it should.
func wantStates(t *testing.T, what string, got, want []api.State) {
	t.Helper()
	if len(got) != len(want) {
		t.Fatalf("%s: %d states, want %d", what, len(got), len(want))
	}
	for i := range got {
		if !state.Same(got[i], want[i]) {
			t.Fatalf("%s: state %d\n%s, want\n%s", what, i, told(got[i]), told(want[i]))
		}
	}
}

// plain is the chapter's rule of Run, and of the states that All tells: an editor is made anew for each operation.
func plain(s api.State, l []api.Op) (result, []api.State) {
	if !state.Right(s) {
		return result{err: api.ErrForm}, nil
	}
	r, states := result{s: s}, []api.State{s}
	for _, x := range l {
		e, err := editor.Load(r.s)
		if err == api.OK {
			err = e.Do(x)
		}
		if err != api.OK {
			r.err = err
			break
		}
		r.s, r.n = e.State(), r.n+1
		states = append(states, r.s)
	}
	return r, states
}

// drawn are operations that may be laid as bytes; few of them can't be done.
func drawn(r *rand.Rand, s api.State, many int) []api.Op {
	var l []api.Op
	for range many {
		at := r.Intn(len(s.Text) + 1)
		x := []api.Op{
			insert(at, []string{"a", "bc\n", two, three, four, xs(100), ""}[r.Intn(7)]),
			remove(at, r.Intn(4)),
			mark(string(rune('a'+r.Intn(20))), at),
			unmark(string(rune('a' + r.Intn(20)))),
			undo, redo, begin, finish,
		}[r.Intn(8)]
		now, _ := plain(s, ops(x))
		if now.err != api.OK && r.Intn(20) > 0 {
			continue
		}
		l, s = append(l, x), now.s
	}
	return l
}

// someOps are operations for a state; the last one of some can't be done.
func someOps(s api.State) [][]api.Op {
	l := [][]api.Op{
		nil, {}, {undo}, {redo}, {begin}, {finish}, {undo, redo, undo}, {redo, undo, redo}, {finish, undo, undo, redo}, {begin, insert(0, "a"), finish, undo},
		{insert(0, "a"), undo, redo, undo, insert(0, "b"), redo},
	}
	r := rand.New(rand.NewSource(27))
	for i := range 12 {
		l = append(l, drawn(r, s, 3*i))
	}
	return l
}

func TestExample(t *testing.T) { // the chapter's example
	s, n, err := Run(api.State{}, ops(insert(0, "a"), undo))
	if s.Text != "" || n != 2 || err != api.OK {
		t.Fatalf("%q, %d, %s", s.Text, n, api.Text(err))
	}
}

func TestRunAndFrames(t *testing.T) { // P27.1
	ab := api.State{Text: "ab", Marks: at(2), Undo: lay(of(a(0, "", "ab")))}
	for _, c := range []struct {
		what string
		s    api.State
		l    []api.Op
		want result
	}{
		{"nothing on nothing", api.State{}, nil, result{}},
		{"nothing on something", ab, nil, result{s: ab}},
		{"one", ab, ops(remove(0, 1)), result{api.State{Text: "b", Marks: at(1), Undo: lay(of(a(0, "", "ab")), of(a(0, "a", "")))}, 1, api.OK}},
		{"back and forth", ab, ops(undo, redo, undo), result{api.State{Marks: at(0), Redo: ab.Undo}, 3, api.OK}},
		{"each kind", ab, ops(begin, insert(2, three), remove(1, 1), mark("b", 4), finish, unmark("a"), undo, redo), result{
			api.State{Text: "a" + three, Marks: []api.Mark{{Name: "b", At: 1}}, Undo: lay(of(a(0, "", "ab")), of(a(2, "", three), a(1, "b", "")))}, 8, api.OK}},
		{"what changes nothing is done, too", ab, ops(insert(0, ""), remove(2, 0), mark("a", 2)), result{ab, 3, api.OK}},
		{"a group stays open", ab, ops(begin, insert(0, "c")), result{
			api.State{Text: "cab", Marks: at(3), Undo: ab.Undo, Open: true, Group: []api.Edit{a(0, "", "c")}}, 2, api.OK}},
		{"an error at first", ab, ops(finish, insert(0, "c")), result{ab, 0, api.ErrState}},
		{"an error in the midst", ab, ops(undo, undo, insert(0, "c")), result{api.State{Marks: at(0), Redo: ab.Undo}, 1, api.ErrEmpty}},
		{"an error at last", ab, ops(undo, begin, redo), result{api.State{Marks: at(0), Redo: ab.Undo, Open: true}, 2, api.ErrState}},
		{"a place that there is not", ab, ops(insert(3, "c")), result{ab, 0, api.ErrRange}},
		{"a place within a rune", ab, ops(insert(0, two), undo, redo, remove(0, 1)), result{
			api.State{Text: two + "ab", Marks: at(4), Undo: lay(of(a(0, "", "ab")), of(a(0, "", two)))}, 3, api.ErrSplit}},
		{"no such mark", ab, ops(unmark("a"), unmark("a")), result{api.State{Text: "ab", Undo: ab.Undo}, 1, api.ErrNone}},
		{"the first of two errors counts", ab, ops(undo, insert(9, "c"), undo), result{api.State{Marks: at(0), Redo: ab.Undo}, 1, api.ErrRange}},
	} {
		want(t, "Run: "+c.what, run(c.s, c.l), c.want)
		want(t, "Frames: "+c.what, frames(c.s, framed(t, c.l)), c.want)
	}
}

func TestOperationsThatMayNotBe(t *testing.T) { // P27.1
	s := api.State{Text: "a", Undo: lay(of(a(0, "", "a")))}
	behind := api.State{Redo: s.Undo}
	for _, c := range []struct {
		x   api.Op
		err api.Errno
	}{
		{api.Op{}, api.ErrArg},
		{api.Op{Kind: 9}, api.ErrArg},
		{api.Op{Kind: -1}, api.ErrArg},
		{api.Op{Kind: math.MinInt}, api.ErrArg},
		{insert(math.MaxInt, ""), api.ErrRange},
		{insert(0, "\xff"), api.ErrForm},
		{insert(0, xs(513)), api.ErrLong},
		{remove(math.MinInt, math.MaxInt), api.ErrRange},
		{mark("A", 0), api.ErrName},
		{unmark("\xff"), api.ErrNone},
	} {
		want(t, fmt.Sprintf("%v", c.x), run(s, ops(undo, c.x, redo)), result{behind, 1, c.err})
	}
	// what a kind has not is not looked at
	for _, x := range []api.Op{{Kind: api.OpUndo, At: -1, N: -1, S: "\xff"}, {Kind: api.OpUndo, S: xs(5000)}} {
		want(t, "Undo with more", run(s, ops(x)), result{behind, 1, api.OK})
	}
	for _, n := range []int{-1, math.MinInt} {
		l := ops(undo, api.Op{Kind: api.OpInsert, N: n, S: "b"})
		want(t, "Insert with more", run(s, l), result{api.State{Text: "b", Undo: lay(of(a(0, "", "b")))}, 2, api.OK})
	}
}

func TestFramesThatCantBeRead(t *testing.T) { // P27.1
	s := api.State{Text: "a", Undo: lay(of(a(0, "", "a")))}
	behind := api.State{Redo: s.Undo}
	good := framed(t, ops(undo, redo))
	for _, c := range []struct {
		data string
		err  api.Errno
	}{
		{"", api.ErrShort},
		{"\x01", api.ErrShort},
		{"\x01\x00\x00\x00", api.ErrShort},
		{"\x02\x00\x00\x00\x00\x00\x00\x00", api.ErrShort},
		{"\x03\x00", api.ErrShort},
		{"\x00", api.ErrForm},
		{"\x09", api.ErrForm},
		{"\xff\xff", api.ErrForm},
		{"\x06\x00", api.ErrForm},
		{"\x04", api.ErrForm},
		{"\x04A", api.ErrForm},
		{"\x01\x00\x00\x00\x00\xff", api.ErrForm},
		{"\x01\x01\x10\x00\x00", api.ErrForm},
		{"\x01\x00\x00\x00\x00" + xs(513), api.ErrForm},
		{"\x02\x00\x00\x00\x00\x00\x00\x00\x00\x00", api.ErrForm},
		{"\x03\x00\x00\x00\x00", api.ErrForm},
		// these can be read, and can't be done
		{"\x01\x01\x00\x00\x00b", api.ErrRange},
		{"\x02\x00\x00\x00\x00\x01\x00\x00\x00", api.ErrRange},
		{"\x04b", api.ErrNone},
		{"\x05", api.ErrEmpty},
		{"\x08", api.ErrState},
	} {
		bad := api.Frame{Data: c.data}
		want(t, fmt.Sprintf("%.12q at first", c.data), frames(behind, []api.Frame{bad, good[1]}), result{behind, 0, c.err})
		want(t, fmt.Sprintf("%.12q in the midst", c.data), frames(s, []api.Frame{good[0], bad, good[1]}), result{behind, 1, c.err})
		want(t, fmt.Sprintf("%.12q at last", c.data), frames(s, []api.Frame{good[0], good[1], good[0], bad}), result{behind, 3, c.err})
		want(t, fmt.Sprintf("%.12q behind an error", c.data), frames(s, []api.Frame{good[1], bad}), result{s, 0, api.ErrEmpty})
	}
}

func TestHeadsOfFramesAreNotLookedAt(t *testing.T) { // P27.1
	s := api.State{Text: "a", Undo: lay(of(a(0, "", "a")))}
	for _, n := range []int{math.MinInt, -1, 0, 7, math.MaxInt} {
		l := []api.Frame{{Epoch: n, Seq: 9, Data: "\x05"}, {Epoch: 3, Seq: n, Data: "\x06"}, {Epoch: n, Seq: n, Data: "\x05"}}
		want(t, "Frames", frames(s, l), result{api.State{Redo: s.Undo}, 3, api.OK})
	}
}

func TestStatesThatAreNotRight(t *testing.T) { // P27.1, P27.2
	for i, s := range wrongStates() {
		what := fmt.Sprint("state ", i)
		for _, l := range [][]api.Op{nil, ops(insert(0, "a")), ops(undo), ops(api.Op{})} {
			want(t, what, run(s, l), result{err: api.ErrForm})
			wantStates(t, what, slices.Collect(All(s, l)), nil)
		}
		for _, l := range [][]api.Frame{nil, {{Data: "\x05"}}, {{}}} {
			want(t, what, frames(s, l), result{err: api.ErrForm})
		}
	}
}

func TestAll(t *testing.T) { // P27.2
	ab := api.State{Text: "ab", Marks: at(2), Undo: lay(of(a(0, "", "ab")))}
	empty := api.State{Marks: at(0), Redo: ab.Undo}
	open := api.State{Text: "ab", Marks: at(2), Undo: ab.Undo, Open: true}
	for _, c := range []struct {
		what string
		s    api.State
		l    []api.Op
		want []api.State
	}{
		{"nothing on nothing", api.State{}, nil, []api.State{{}}},
		{"nothing on something", ab, nil, []api.State{ab}},
		{"one", ab, ops(undo), []api.State{ab, empty}},
		{"back and forth", ab, ops(undo, redo, undo), []api.State{ab, empty, {Text: "ab", Marks: at(0), Undo: ab.Undo}, empty}},
		{"what changes nothing is told, too", ab, ops(insert(0, ""), begin, finish), []api.State{ab, ab, open, ab}},
		{"an error at first", ab, ops(redo, undo), []api.State{ab}},
		{"an error in the midst", ab, ops(undo, undo, redo), []api.State{ab, empty}},
		{"an error at last", ab, ops(begin, finish, finish), []api.State{ab, open, ab}},
		{"a kind that is none", ab, ops(undo, api.Op{}, redo), []api.State{ab, empty}},
		{"an insert in a group", open, ops(insert(2, three)), []api.State{open, {Text: "ab" + three, Marks: at(2), Undo: ab.Undo, Open: true, Group: []api.Edit{a(2, "", three)}}}},
	} {
		wantStates(t, c.what, slices.Collect(All(c.s, c.l)), c.want)
	}
}

func TestByOneAndOne(t *testing.T) { // P27.1, P27.2
	count := map[api.Errno]int{}
	for i, s := range someStates() {
		for k, l := range someOps(s) {
			what := fmt.Sprintf("state %d, operations %d", i, k)
			r, states := plain(s, l)
			count[r.err]++
			want(t, what+": Run", run(s, l), r)
			want(t, what+": Frames", frames(s, framed(t, l)), r)
			wantStates(t, what+": All", slices.Collect(All(s, l)), states)
		}
	}
	for _, err := range []api.Errno{api.OK, api.ErrState, api.ErrEmpty, api.ErrSplit, api.ErrNone} {
		if count[err] < 3 {
			t.Fatalf("%s came %d times", api.Text(err), count[err])
		}
	}
}

func TestTwoParts(t *testing.T) { // P27.3
	for i, s := range someStates() {
		for k, l := range someOps(s) {
			whole, states := run(s, l), slices.Collect(All(s, l))
			written := framed(t, l)
			for cut := range whole.n + 1 {
				what := fmt.Sprintf("state %d, operations %d, cut at %d", i, k, cut)
				one := run(s, l[:cut])
				if one.n != cut || one.err != api.OK {
					t.Fatalf("%s: %d, %s", what, one.n, api.Text(one.err))
				}
				other := run(one.s, l[cut:])
				want(t, what, result{other.s, one.n + other.n, other.err}, whole)
				one = frames(s, written[:cut])
				other = frames(one.s, written[cut:])
				want(t, what, result{other.s, one.n + other.n, other.err}, whole)
				both := slices.Collect(All(s, l[:cut]))
				both = append(both[:cut], slices.Collect(All(both[cut], l[cut:]))...)
				wantStates(t, what, both, states)
			}
		}
	}
}

func TestLeft(t *testing.T) { // P27.2, R3
	s := api.State{Text: "a", Undo: lay(of(a(0, "", "a")))}
	it := All(s, ops(undo, redo, undo, redo))
	whole := slices.Collect(it)
	for many := 1; many <= len(whole); many++ {
		var got []api.State
		it(func(x api.State) bool {
			if len(got) == many {
				t.Fatal("an iterator that was left goes on")
			}
			got = append(got, x)
			return len(got) < many
		})
		wantStates(t, fmt.Sprint("left behind ", many), got, whole[:many])
		wantStates(t, "gone over again", slices.Collect(it), whole)
	}
	// an error that stands behind where it is left is not come to
	for range All(s, ops(undo, undo)) {
		break
	}
}

func TestNested(t *testing.T) { // R3
	s := api.State{Text: "a", Marks: at(1), Undo: lay(of(a(0, "", "a")))}
	it := All(s, ops(undo, begin, insert(0, "b"), insert(1, three), finish, undo, redo))
	whole := slices.Collect(it)
	if len(whole) != 8 {
		t.Fatalf("%d states", len(whole))
	}
	outer := 0
	for x := range it {
		wantStates(t, "outside", []api.State{x}, whole[outer:outer+1])
		inner := 0
		for y := range it {
			wantStates(t, "inside", []api.State{y}, whole[inner:inner+1])
			spoil(y)
			if inner++; inner == outer {
				break
			}
		}
		wantStates(t, "outside, behind the inside", []api.State{x}, whole[outer:outer+1])
		outer++
	}
	if outer != len(whole) {
		t.Fatalf("%d states", outer)
	}
	one, stopOne := iter.Pull(it)
	other, stopOther := iter.Pull(it)
	defer stopOne()
	defer stopOther()
	for i := range whole {
		x, _ := one()
		y, _ := other()
		wantStates(t, "side by side", []api.State{x, y}, []api.State{whole[i], whole[i]})
	}
}

func TestAsItWasAskedFor(t *testing.T) { // R3
	for i, s := range someStates() {
		for k, l := range someOps(s) {
			what := fmt.Sprintf("state %d, operations %d", i, k)
			_, states := plain(s, l)
			given, some := state.Copy(s), slices.Clone(l)
			it := All(given, some)
			spoil(given)
			for j := range some {
				some[j] = api.Op{Kind: 99}
			}
			wantStates(t, what, slices.Collect(it), states)
			// what is told is the caller's: neither what comes next nor another time hangs on it
			n := 0
			for x := range it {
				wantStates(t, what+", spoilt", []api.State{x}, states[n:n+1])
				spoil(x)
				n++
			}
			wantStates(t, what+", again", slices.Collect(it), states)
			// nor do the states that were told hang on each other
			for j := range states {
				got := slices.Collect(it)
				spoil(got[j])
				got[j] = states[j]
				wantStates(t, what+", one spoilt", got, states)
			}
		}
	}
}

// roomy is a state whose lists have room behind their ends, with something in it; room tells whether that is there still.
func roomy(s api.State) (given api.State, room func() bool) {
	steps := func(l []api.Step) []api.Step {
		l = slices.Clone(l)
		for i, x := range l {
			l[i].Edits = append(slices.Clone(x.Edits), a(7, "room", ""))[:len(x.Edits)]
		}
		return append(l, of(a(7, "room", "")))[:len(l)]
	}
	s.Marks = append(slices.Clone(s.Marks), api.Mark{Name: "room", At: 7})[:len(s.Marks)]
	s.Undo, s.Redo = steps(s.Undo), steps(s.Redo)
	s.Group = append(slices.Clone(s.Group), a(7, "room", ""))[:len(s.Group)]
	return s, func() bool {
		ok := s.Marks[:len(s.Marks)+1][len(s.Marks)].Name == "room" && s.Group[:len(s.Group)+1][len(s.Group)].Old == "room"
		for _, l := range [][]api.Step{s.Undo, s.Redo} {
			for _, x := range l {
				ok = ok && x.Edits[:len(x.Edits)+1][len(x.Edits)].Old == "room"
			}
			ok = ok && l[:len(l)+1][len(l)].Edits[0].Old == "room"
		}
		return ok
	}
}

func TestMemory(t *testing.T) { // R3
	for i, s := range someStates() {
		for k, l := range someOps(s) {
			what := fmt.Sprintf("state %d, operations %d", i, k)
			r, states := plain(s, l)
			given, room := roomy(s)
			some := append(slices.Clone(l), api.Op{Kind: 77})[:len(l)]
			written := append(framed(t, l), api.Frame{Seq: 77})[:len(l)]
			answers := []result{run(given, some), frames(given, written), run(given, some)}
			got := slices.Collect(All(given, some))
			if !state.Same(given, s) || !slices.Equal(some, l) || !slices.Equal(written, framed(t, l)) {
				t.Fatalf("%s: what was handed in is changed", what)
			}
			if !room() || some[:len(l)+1][len(l)].Kind != 77 || written[:len(l)+1][len(l)].Seq != 77 {
				t.Fatalf("%s: the room behind what was handed in is changed", what)
			}
			spoil(given)
			for j := range answers {
				want(t, what, answers[j], r)
				spoil(answers[j].s)
			}
			wantStates(t, what, got, states)
		}
	}
	// without an operation, too, an answer is new memory
	s := api.State{Text: "x", Marks: at(0), Undo: each(1), Open: true}
	end, _, _ := Run(s, nil)
	spoil(end)
	other, _, _ := Frames(s, nil)
	spoil(other)
	for x := range All(s, nil) {
		spoil(x)
	}
	wantStates(t, "what was handed in", []api.State{s}, []api.State{{Text: "x", Marks: at(0), Undo: each(1), Open: true}})
}

func TestMany(t *testing.T) { // R1
	const many = 5000
	s := api.State{Text: xs(4000), Undo: each(16)}
	var l []api.Op
	for range many {
		l = append(l, insert(2000, "a"), remove(2000, 1))
	}
	last := result{s, 2 * many, api.OK}
	for i := range 8 {
		last.s.Undo[2*i], last.s.Undo[2*i+1] = of(a(2000, "", "a")), of(a(2000, "a", ""))
	}
	s.Undo = each(16)
	want(t, "Run", run(s, l), last)
	want(t, "Frames", frames(s, framed(t, l)), last)
	n := 0
	for x := range All(s, l[:2000]) {
		if n++; n == 2001 {
			wantStates(t, "the last one", []api.State{x}, []api.State{last.s})
		}
	}
	if n != 2001 {
		t.Fatalf("%d states", n)
	}
}
