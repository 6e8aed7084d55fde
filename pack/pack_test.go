package pack

import (
	"encoding/binary"
	"fmt"
	"math"
	"math/rand"
	"slices"
	"strings"
	"testing"

	"stylus/api"
	"stylus/editor"
	"stylus/state"
)

// Runes of two to four bytes.
const (
	two   = "\u00e9"
	three = "\u20ac"
	four  = "\U0001f600"
)

// a is an edit, in one word.
func a(at int, old, new string) api.Edit { return api.Edit{At: at, Old: old, New: new} }

// of is a step of those edits, in one word.
func of(l ...api.Edit) api.Step { return api.Step{Edits: l} }

// lay are those steps, in one word.
func lay(l ...api.Step) []api.Step { return l }

// group are those edits, in one word.
func group(l ...api.Edit) []api.Edit { return l }

// at are marks with the names a, b, .. at those places.
func at(places ...int) []api.Mark {
	var l []api.Mark
	for i, p := range places {
		l = append(l, api.Mark{Name: string(rune('a' + i)), At: p})
	}
	return l
}

// xs is a text of so many x.
func xs(n int) string { return strings.Repeat("x", n) }

// put are so many edits that put an x each at a text's begin.
func put(n int) []api.Edit { return slices.Repeat(group(a(0, "", "x")), n) }

// each are so many steps of one edit, that puts an x at a text's begin.
func each(n int) []api.Step { return slices.Repeat(lay(of(put(1)...)), n) }

// someStates are states that are right, some of them at the ends of what may be.
func someStates() []api.State {
	x := a(0, "", "x")
	return []api.State{
		{},
		{Open: true},
		{Text: "a" + two + three + four + "\n\x00", Marks: at(0, 1, 3, 6, 10, 12)},
		{Text: xs(300), Marks: []api.Mark{{Name: "a", At: 255}, {Name: "abcdefgh", At: 256}, {Name: "b", At: 300}}},
		{Text: xs(4096), Marks: at(make([]int, 16)...), Undo: each(16), Redo: lay(of(a(4095, "x", "y")))},
		{Text: xs(16), Undo: each(16), Redo: each(16)},
		{Text: xs(48), Undo: each(16), Open: true, Group: put(32)},
		{Text: "x", Undo: lay(of(x)), Redo: lay(of(a(0, "x", ""))), Open: true},
		{Text: "yx", Marks: at(2, 1), Undo: lay(of(x)), Open: true, Group: group(a(0, "", "y"))},
		{Text: "abc", Marks: at(0, 1, 2, 3), Undo: lay(of(a(0, three, "b"), a(0, "", "a"))), Redo: lay(of(a(0, "ab", three), a(3, "c", "")))},
		{Text: xs(512), Undo: lay(of(put(32)...)), Redo: lay(of(a(0, xs(512), strings.Repeat(two, 256))))},
		{Text: "\x00\x00\x00\x00", Undo: lay(of(a(0, "", "\x00")), of(a(1, "", "\x01"), a(1, "\x01", "\x00\x00\x00")))},
	}
}

// wrongStates are states that are not right, each for another reason; bytes say all of them but the last one as they are.
func wrongStates() []api.State {
	x := a(0, "", "x")
	return []api.State{
		{Text: "a\xff"},
		{Text: three[:2]},
		{Text: xs(4097)},
		{Text: three, Marks: at(1)},
		{Text: "a", Marks: at(2)},
		{Marks: at(math.MaxUint32)},
		{Marks: at(make([]int, 17)...)},
		{Marks: []api.Mark{{Name: "A"}}},
		{Marks: []api.Mark{{}}},
		{Marks: []api.Mark{{Name: "abcdefghi"}}},
		{Marks: []api.Mark{{Name: "b"}, {Name: "a"}}},
		{Marks: []api.Mark{{Name: "a"}, {Name: "a"}}},
		{Text: "y", Undo: lay(of(x))},
		{Text: xs(17), Undo: each(17)},
		{Undo: lay(of())},
		{Text: xs(33), Undo: lay(of(put(33)...))},
		{Text: xs(513), Undo: lay(of(a(0, "", xs(513))))},
		{Undo: lay(of(a(0, xs(513), "")))},
		{Undo: lay(of(a(0, "", "")))},
		{Undo: lay(of(a(0, "\xff", "")))},
		{Redo: lay(of(a(0, "x", "")))},
		{Redo: lay(of(a(math.MaxUint32, "", "x")))},
		{Redo: each(17)},
		{Redo: lay(of())},
		{Redo: lay(of(put(33)...))},
		{Text: "x", Group: put(1)},
		{Open: true, Group: put(1)},
		{Text: xs(33), Open: true, Group: put(33)},
		{Text: "x", Open: true, Group: put(1), Redo: lay(of(x))},
		{Text: "x", Open: true, Group: group(x, a(0, "", ""))},
		{Text: "yx", Undo: lay(of(a(0, "", "y"))), Open: true, Group: group(a(0, "", "y"))},
		{Marks: at(math.MinInt), Undo: lay(of(a(math.MaxInt, "", "x"), a(-1, "", "x")))},
	}
}

// spelt is the chapter's bytes of a state, right or not, spelt out.
func spelt(s api.State) string {
	var b []byte
	two := func(n int) { b = binary.LittleEndian.AppendUint16(b, uint16(n)) }
	four := func(n int) { b = binary.LittleEndian.AppendUint32(b, uint32(n)) }
	text := func(s string) { four(len(s)); b = append(b, s...) }
	edits := func(l []api.Edit) {
		two(len(l))
		for _, e := range l {
			four(e.At)
			text(e.Old)
			text(e.New)
		}
	}
	text(s.Text)
	two(len(s.Marks))
	for _, m := range s.Marks {
		text(m.Name)
		four(m.At)
	}
	for _, l := range [][]api.Step{s.Undo, s.Redo} {
		two(len(l))
		for _, x := range l {
			edits(x.Edits)
		}
	}
	if s.Open {
		b = append(b, 1)
	} else {
		b = append(b, 0)
	}
	edits(s.Group)
	return string(b)
}

// flagAt is where the byte that tells of an open group stands.
func flagAt(s api.State) int {
	s.Group = nil
	return len(spelt(s)) - 3
}

// looker reads bytes by their places; it looks at each one's being there by itself, and goes on with zeros where bytes lack.
type looker struct {
	s     string
	at    int
	short bool
}

func (k *looker) bytes(n int) string {
	if k.short = k.short || k.at+n > len(k.s); k.short {
		return ""
	}
	k.at += n
	return k.s[k.at-n : k.at]
}

func (k *looker) number(wide int) int {
	n := 0
	for i, c := range []byte(k.bytes(wide)) {
		n += int(c) << (8 * i)
	}
	return n
}

func (k *looker) edits() []api.Edit {
	var l []api.Edit
	for n := k.number(2); n > 0 && !k.short; n-- {
		l = append(l, a(k.number(4), k.bytes(k.number(4)), k.bytes(k.number(4))))
	}
	return l
}

func (k *looker) steps() []api.Step {
	var l []api.Step
	for n := k.number(2); n > 0 && !k.short; n-- {
		l = append(l, of(k.edits()...))
	}
	return l
}

// looked is the chapter's rule of Read, spelt out.
func looked(s string) (api.State, api.Errno) {
	k := &looker{s: s}
	var x api.State
	x.Text = k.bytes(k.number(4))
	for n := k.number(2); n > 0 && !k.short; n-- {
		x.Marks = append(x.Marks, api.Mark{Name: k.bytes(k.number(4)), At: k.number(4)})
	}
	x.Undo, x.Redo = k.steps(), k.steps()
	flag := k.number(1)
	if flag > 1 {
		return api.State{}, api.ErrForm
	}
	x.Open = flag == 1
	x.Group = k.edits()
	switch {
	case k.short:
		return api.State{}, api.ErrShort
	case k.at < len(s):
		return api.State{}, api.ErrLong
	case !state.Right(x):
		return api.State{}, api.ErrForm
	}
	return x, api.OK
}

// told is a state as text, cut short.
func told(s api.State) string {
	t := fmt.Sprintf("%q", fmt.Sprint(s))
	return fmt.Sprintf("%d bytes: %.200s", len(t), t)
}

// wantBytes holds what Lay tells against what it should.
func wantBytes(t *testing.T, what string, s api.State, want string, wantErr api.Errno) {
	t.Helper()
	for range 2 {
		if got, err := Lay(s); got != want || err != wantErr {
			t.Fatalf("%s: Lay(%s): % x, %s, want % x, %s", what, told(s), got, api.Text(err), want, api.Text(wantErr))
		}
	}
}

// wantState holds what Read tells against what it should; beside an error that is the zero state.
func wantState(t *testing.T, what, s string, want api.State, wantErr api.Errno) {
	t.Helper()
	for range 2 {
		if got, err := Read(s); !state.Same(got, want) || err != wantErr {
			t.Fatalf("%s: Read(% .80x, %d bytes): %s, %s, want %s, %s", what, s, len(s), told(got), api.Text(err), told(want), api.Text(wantErr))
		}
	}
}

// drawnState is a state that an editor is left with.
func drawnState(r *rand.Rand) api.State {
	e := editor.New()
	for range r.Intn(80) {
		n := e.Len()
		e.Do(api.Op{
			Kind: []int{1, 1, 1, 1, 2, 2, 3, 4, 5, 5, 6, 7, 8}[r.Intn(13)],
			At:   r.Intn(n + 1),
			N:    r.Intn(5),
			S:    []string{"a", "b", two, three, four, "\n\x00", "abcdefgh", xs(300)}[r.Intn(8)],
		})
	}
	return e.State()
}

// changed is a state of which one thing is another one; some of what comes of it is not right.
func changed(r *rand.Rand, s api.State) api.State {
	s = state.Copy(s)
	other := []string{"", "a", "b", two, three[:2], xs(512), xs(513), four}[r.Intn(8)]
	switch r.Intn(8) {
	case 0:
		s.Text += other
	case 1:
		s.Open = !s.Open
	case 2:
		s.Marks = append(s.Marks, api.Mark{Name: other, At: r.Intn(3)})
	case 3:
		s.Undo, s.Redo = s.Redo, s.Undo
	case 4:
		s.Undo = append(s.Undo, of(a(r.Intn(2), other, "a")))
	case 5:
		s.Redo = append(s.Redo, of(a(r.Intn(2), "", other)))
	case 6:
		s.Group = append(s.Group, a(r.Intn(2), other, ""))
	case 7:
		if n := len(s.Marks); n > 0 {
			s.Marks[r.Intn(n)].At += r.Intn(5) - 2
		}
	}
	return s
}

func TestBytesOfSomeStates(t *testing.T) { // P28.1
	x := a(0, "", "x")
	for _, c := range []struct {
		what string
		s    api.State
		want string
	}{
		{"the empty state", api.State{}, "\x00\x00\x00\x00\x00\x00\x00\x00\x00\x00\x00\x00\x00"},
		{"empty lists", api.State{Marks: at(), Undo: lay(), Redo: lay(), Group: group()}, strings.Repeat("\x00", 13)},
		{"a text", api.State{Text: "a" + two}, "\x03\x00\x00\x00a\xc3\xa9\x00\x00\x00\x00\x00\x00\x00\x00\x00"},
		{"an open group without edits", api.State{Open: true}, "\x00\x00\x00\x00\x00\x00\x00\x00\x00\x00\x01\x00\x00"},
		{"marks", api.State{Text: "abc", Marks: []api.Mark{{Name: "k", At: 3}, {Name: "no", At: 1}}}, "\x03\x00\x00\x00abc" +
			"\x02\x00" + "\x01\x00\x00\x00k\x03\x00\x00\x00" + "\x02\x00\x00\x00no\x01\x00\x00\x00" +
			"\x00\x00\x00\x00\x00\x00\x00"},
		{"undo, a step", api.State{Text: "x", Undo: lay(of(x))}, "\x01\x00\x00\x00x\x00\x00" +
			"\x01\x00" + "\x01\x00" + "\x00\x00\x00\x00" + "\x00\x00\x00\x00" + "\x01\x00\x00\x00x" +
			"\x00\x00\x00\x00\x00"},
		{"redo, a step", api.State{Text: "x", Redo: lay(of(a(0, "x", "")))}, "\x01\x00\x00\x00x\x00\x00\x00\x00" +
			"\x01\x00" + "\x01\x00" + "\x00\x00\x00\x00" + "\x01\x00\x00\x00x" + "\x00\x00\x00\x00" +
			"\x00\x00\x00"},
		{"undo, steps of edits", api.State{Text: "abd", Undo: lay(of(x, a(1, "", "c"), a(0, "x", "b")), of(a(0, "", "a"), a(2, "c", "d")))}, "\x03\x00\x00\x00abd\x00\x00" +
			"\x02\x00" +
			"\x03\x00" + "\x00\x00\x00\x00\x00\x00\x00\x00\x01\x00\x00\x00x" + "\x01\x00\x00\x00\x00\x00\x00\x00\x01\x00\x00\x00c" + "\x00\x00\x00\x00\x01\x00\x00\x00x\x01\x00\x00\x00b" +
			"\x02\x00" + "\x00\x00\x00\x00\x00\x00\x00\x00\x01\x00\x00\x00a" + "\x02\x00\x00\x00\x01\x00\x00\x00c\x01\x00\x00\x00d" +
			"\x00\x00\x00\x00\x00"},
		{"a group above a step", api.State{Text: "yx", Undo: lay(of(x)), Open: true, Group: group(a(0, "", "y"))}, "\x02\x00\x00\x00yx\x00\x00" +
			"\x01\x00\x01\x00\x00\x00\x00\x00\x00\x00\x00\x00\x01\x00\x00\x00x" + "\x00\x00" +
			"\x01" + "\x01\x00" + "\x00\x00\x00\x00\x00\x00\x00\x00\x01\x00\x00\x00y"},
		{"more than a byte says", api.State{Text: xs(258), Marks: at(258), Redo: lay(of(a(257, "x", xs(259))))}, "\x02\x01\x00\x00" + xs(258) +
			"\x01\x00\x01\x00\x00\x00a\x02\x01\x00\x00" + "\x00\x00" +
			"\x01\x00\x01\x00\x01\x01\x00\x00\x01\x00\x00\x00x\x03\x01\x00\x00" + xs(259) +
			"\x00\x00\x00"},
	} {
		wantBytes(t, c.what, c.s, c.want, api.OK)
		wantState(t, c.what, c.want, c.s, api.OK)
		if spelt(c.s) != c.want {
			t.Fatalf("%s: the bytes spelt out are others", c.what)
		}
	}
}

func TestStatesThatAreRight(t *testing.T) { // P28.1, P28.2
	for i, s := range someStates() {
		what := fmt.Sprint("state ", i)
		wantBytes(t, what, s, spelt(s), api.OK)
		wantState(t, what, spelt(s), s, api.OK)
	}
}

func TestStatesThatAreNotRight(t *testing.T) { // P28.1
	for i, s := range wrongStates() {
		what := fmt.Sprint("state ", i)
		wantBytes(t, what, s, "", api.ErrForm)
		wantState(t, what, spelt(s), api.State{}, api.ErrForm)
	}
}

func TestDrawnStates(t *testing.T) { // P28.1, P28.2
	r := rand.New(rand.NewSource(1))
	right, wrong := 0, 0
	for range 300 {
		s := drawnState(r)
		wantBytes(t, "drawn", s, spelt(s), api.OK)
		wantState(t, "drawn", spelt(s), s, api.OK)
		for range 5 {
			x := changed(r, s)
			if state.Right(x) {
				right++
				wantBytes(t, "changed", x, spelt(x), api.OK)
				wantState(t, "changed", spelt(x), x, api.OK)
				continue
			}
			wrong++
			wantBytes(t, "changed", x, "", api.ErrForm)
			wantState(t, "changed", spelt(x), api.State{}, api.ErrForm)
		}
	}
	if right < 100 || wrong < 100 {
		t.Fatalf("%d changed states are right, %d are not", right, wrong)
	}
}

func TestBytesThatLack(t *testing.T) { // P28.1
	for i, s := range slices.Concat(someStates(), wrongStates()) {
		whole := spelt(s)
		for n := range whole {
			wantState(t, fmt.Sprintf("state %d, %d bytes of it", i, n), whole[:n], api.State{}, api.ErrShort)
		}
	}
}

func TestBytesThatAreLeft(t *testing.T) { // P28.1
	for i, s := range slices.Concat(someStates(), wrongStates()) {
		what := fmt.Sprint("state ", i)
		for b := range 256 {
			wantState(t, what, spelt(s)+string([]byte{byte(b)}), api.State{}, api.ErrLong)
		}
		wantState(t, what, spelt(s)+spelt(s), api.State{}, api.ErrLong)
		wantState(t, what, spelt(s)+xs(5000), api.State{}, api.ErrLong)
	}
}

func TestByteOfAnOpenGroup(t *testing.T) { // P28.1
	for i, s := range slices.Concat(someStates(), wrongStates()) {
		ahead, behind := spelt(s)[:flagAt(s)], spelt(s)[flagAt(s)+1:]
		for b := 2; b < 256; b++ {
			what := fmt.Sprintf("state %d, the byte is %d", i, b)
			flag := string([]byte{byte(b)})
			wantState(t, what, ahead+flag+behind, api.State{}, api.ErrForm)
			// it is read ahead of what lacks, and of what is left
			wantState(t, what, ahead+flag, api.State{}, api.ErrForm)
			wantState(t, what, ahead+flag+"\x01", api.State{}, api.ErrForm)
			wantState(t, what, ahead+flag+"\xff\xff", api.State{}, api.ErrForm)
			wantState(t, what, ahead+flag+behind+"a", api.State{}, api.ErrForm)
		}
		wantState(t, "no such byte", ahead, api.State{}, api.ErrShort)
	}
	// whether it is 0 or 1 tells states apart
	wantState(t, "open", "\x00\x00\x00\x00\x00\x00\x00\x00\x00\x00\x01\x00\x00", api.State{Open: true}, api.OK)
	group := spelt(api.State{Text: "x", Open: true, Group: put(1)})
	wantState(t, "edits of an open group", group, api.State{Text: "x", Open: true, Group: put(1)}, api.OK)
	wantState(t, "edits of a group that is not open", strings.Replace(group, "\x01\x01\x00", "\x00\x01\x00", 1), api.State{}, api.ErrForm)
}

func TestNumbersThatSayTooMuch(t *testing.T) { // P28.1, R1
	const none = "\x00\x00"
	for _, big := range []string{"\x02\x00\x00\x00", "\xff\xff\x00\x00", "\xff\xff\xff\x7f", "\x00\x00\x00\x80", "\xff\xff\xff\xff"} {
		for what, s := range map[string]string{
			"a text":         big + "a",
			"a mark's name":  "\x00\x00\x00\x00" + "\x01\x00" + big + "a",
			"an Old":         "\x00\x00\x00\x00" + none + "\x01\x00\x01\x00" + "\x00\x00\x00\x00" + big + "a",
			"a New":          "\x00\x00\x00\x00" + none + none + "\x01\x00\x01\x00" + "\x00\x00\x00\x00\x00\x00\x00\x00" + big + "a",
			"a group's edit": "\x00\x00\x00\x00" + none + none + none + "\x01\x01\x00" + "\x00\x00\x00\x00" + big + "a",
		} {
			wantState(t, what, s, api.State{}, api.ErrShort)
		}
	}
	for _, big := range []string{"\x02\x00", "\x00\x01", "\xff\x7f", "\x00\x80", "\xff\xff"} {
		for what, s := range map[string]string{
			"marks":           "\x00\x00\x00\x00" + big + "\x01\x00\x00\x00a\x00\x00\x00\x00",
			"steps to undo":   "\x00\x00\x00\x00" + none + big + "\x00",
			"steps to redo":   "\x00\x00\x00\x00" + none + none + big + "\x00",
			"a step's edits":  "\x00\x00\x00\x00" + none + none + "\x01\x00" + big + strings.Repeat("\x00", 12),
			"a group's edits": "\x00\x00\x00\x00" + none + none + none + "\x01" + big + strings.Repeat("\x00", 12),
		} {
			wantState(t, what, s, api.State{}, api.ErrShort)
		}
	}
}

func TestManyThings(t *testing.T) { // P28.1, R1
	const many = math.MaxUint16
	for i, s := range []api.State{
		{Text: xs(1 << 20)},
		{Marks: slices.Repeat(at(0), many)},
		{Undo: slices.Repeat(lay(of()), many)},
		{Undo: each(many)},
		{Redo: lay(of(put(many)...))},
		{Text: "x", Open: true, Group: put(many)},
		{Redo: slices.Repeat(lay(of(put(32)...)), 2000)},
		{Undo: lay(of(a(0, xs(1<<20), xs(1<<20))))},
	} {
		what := fmt.Sprint("state ", i)
		wantBytes(t, what, s, "", api.ErrForm)
		wantState(t, what, spelt(s), api.State{}, api.ErrForm)
		wantState(t, what, spelt(s)[:len(spelt(s))-1], api.State{}, api.ErrShort)
		wantState(t, what, spelt(s)+"\x00", api.State{}, api.ErrLong)
	}
}

// wantLooked holds Read against its rule spelt out, and what it reads against what is laid of that.
func wantLooked(t *testing.T, what, s string) api.Errno {
	t.Helper()
	want, wantErr := looked(s)
	wantState(t, what, s, want, wantErr)
	if wantErr == api.OK {
		wantBytes(t, what, want, s, api.OK)
	}
	return wantErr
}

func TestBytesThatAreChanged(t *testing.T) { // P28.1, P28.2
	count := map[api.Errno]int{}
	for _, s := range slices.Concat(someStates(), wrongStates()) {
		whole := spelt(s)
		if len(whole) > 1000 {
			continue
		}
		for i := range len(whole) {
			for _, b := range []byte{0, 1, 2, 3, 16, 'a', 'x', 0x80, 0xff, whole[i] + 1, whole[i] - 1} {
				some := []byte(whole)
				some[i] = b
				count[wantLooked(t, fmt.Sprintf("byte %d is %d", i, b), string(some))]++
			}
			count[wantLooked(t, fmt.Sprintf("without byte %d", i), whole[:i]+whole[i+1:])]++
			count[wantLooked(t, fmt.Sprintf("one more ahead of byte %d", i), whole[:i]+"\x00"+whole[i:])]++
		}
	}
	for _, err := range []api.Errno{api.OK, api.ErrShort, api.ErrForm, api.ErrLong} {
		if count[err] < 50 {
			t.Fatalf("%s came %d times", api.Text(err), count[err])
		}
	}
}

func TestAnyBytes(t *testing.T) { // P28.1, P28.2
	r := rand.New(rand.NewSource(2))
	for range 20000 {
		b := make([]byte, r.Intn(40))
		for i := range b {
			b[i] = []byte{0, 0, 0, 0, 0, 0, 1, 1, 2, 'a', 'x', 0xff}[r.Intn(12)]
		}
		wantLooked(t, "any bytes", string(b))
	}
	wantState(t, "no bytes", "", api.State{}, api.ErrShort)
}

// roomy is the same state, of which each list has room behind its end with something in it; room tells whether that is there still.
func roomy(s api.State) (given api.State, room func() bool) {
	edits := func(l []api.Edit) []api.Edit { return append(slices.Clone(l), a(7, "room", ""))[:len(l)] }
	steps := func(l []api.Step) []api.Step {
		l = append(slices.Clone(l), of(a(7, "room", "")))
		for i, x := range l {
			l[i].Edits = edits(x.Edits)
		}
		return l[:len(l)-1]
	}
	s.Marks = append(slices.Clone(s.Marks), api.Mark{Name: "room", At: 7})[:len(s.Marks)]
	s.Undo, s.Redo, s.Group = steps(s.Undo), steps(s.Redo), edits(s.Group)
	here := func(l []api.Edit) bool { return l[:len(l)+1][len(l)] == a(7, "room", "") }
	return s, func() bool {
		ok := s.Marks[:len(s.Marks)+1][len(s.Marks)] == api.Mark{Name: "room", At: 7} && here(s.Group)
		for _, l := range [][]api.Step{s.Undo, s.Redo} {
			for _, x := range l[:len(l)+1] {
				ok = ok && here(x.Edits)
			}
			ok = ok && l[:len(l)+1][len(l)].Edits[0].Old == "room"
		}
		return ok
	}
}

func TestWhatIsHandedInIsKept(t *testing.T) { // R3
	for i, s := range slices.Concat(someStates(), wrongStates()) {
		given, room := roomy(s)
		laid, err := Lay(given)
		want := ""
		if state.Right(s) {
			want = spelt(s)
		}
		if laid != want || (err == api.OK) != state.Right(s) {
			t.Fatalf("state %d: % x, %s", i, laid, api.Text(err))
		}
		if !state.Same(given, s) || !room() {
			t.Fatalf("state %d: what was handed in is changed", i)
		}
	}
}

// lists are what spoils each list of a state, and the room behind its end, one by one.
func lists(s api.State) []func() {
	var l []func()
	edits := func(e []api.Edit) {
		e = e[:cap(e)]
		l = append(l, func() {
			for i := range e {
				e[i] = a(-7, "spoilt", "too")
			}
		})
	}
	l = append(l, func() {
		for i := range s.Marks[:cap(s.Marks)] {
			s.Marks[:cap(s.Marks)][i] = api.Mark{Name: "spoilt", At: -7}
		}
	})
	edits(s.Group)
	for _, steps := range [][]api.Step{s.Undo, s.Redo} {
		for _, x := range steps {
			edits(x.Edits)
		}
		room := steps[len(steps):cap(steps)]
		l = append(l, func() {
			for i := range room {
				room[i] = of(a(-7, "", ""))
			}
		})
	}
	return l
}

func TestWhatIsReadIsNewMemory(t *testing.T) { // R3
	for i, s := range someStates() {
		whole := spelt(s)
		first, _ := Read(whole)
		for k := range lists(first) {
			// of two that are read alike, only what stands in the one list that is spoilt tells them apart
			got, _ := Read(whole)
			lists(got)[k]()
			want := state.Copy(s)
			lists(want)[k]()
			if !state.Same(got, want) {
				t.Fatalf("state %d: list %d shares memory with another one: %s, want %s", i, k, told(got), told(want))
			}
		}
		if !state.Same(first, s) {
			t.Fatalf("state %d: two answers share memory", i)
		}
	}
}
