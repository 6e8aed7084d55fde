package marks

import (
	"fmt"
	"math"
	"math/rand"
	"regexp"
	"slices"
	"sort"
	"strings"
	"testing"
	"unicode/utf8"

	"stylus/api"
	"stylus/edit"
)

// Runes of two to four bytes.
const (
	two   = "\u00e9"
	three = "\u20ac"
	four  = "\U0001f600"
)

var markIs = regexp.MustCompile(`\A[a-z]{1,8}\z`)

// ends are numbers at the ends of ints, and around what a text may have.
var ends = []int{math.MinInt, math.MinInt + 1, math.MinInt / 2, -1 << 32, -4097, -2, -1, 0, 1, 2, 4095, 4096, 4097, 1 << 31, 1 << 32, math.MaxInt / 2, math.MaxInt - 1, math.MaxInt}

// m is a mark, in one word.
func m(name string, at int) api.Mark { return api.Mark{Name: name, At: at} }

// list is the marks of those places, named by letters that rise.
func list(places ...int) []api.Mark {
	var l []api.Mark
	for i, at := range places {
		l = append(l, m(letters(i), at))
	}
	return l
}

// letters is the name of a number, such that names rise as the numbers do.
func letters(n int) string { return string([]byte{byte('a' + n/26), byte('a' + n%26)}) }

// many are so many marks whose names rise, at the places 0, 1 and so on.
func many(n int) []api.Mark {
	var l []api.Mark
	for i := range n {
		l = append(l, m(letters(i), i))
	}
	return l
}

// drawn are up to so many marks whose names rise, at places from 0 to most.
func drawn(r *rand.Rand, marks, most int) []api.Mark {
	l := many(r.Intn(marks + 1))
	for i := range l {
		l[i].At = r.Intn(most + 1)
	}
	return l
}

// drawnText is a valid text of so many drawn runes of all sizes.
func drawnText(r *rand.Rand, runes int) string {
	some := []string{"a", "b", "\n", "\x00", "\ufffd", two, three, four}
	var s strings.Builder
	for range runes {
		s.WriteString(some[r.Intn(len(some))])
	}
	return s.String()
}

// edges are all places of a valid text at which no rune is cut.
func edges(s string) []int {
	var l []int
	for at := range s {
		l = append(l, at)
	}
	return append(l, len(s))
}

// kept hands out a list in a room that has more marks behind its end, and looks at whether a call changed any of it.
func kept(t *testing.T, l []api.Mark) ([]api.Mark, func()) {
	t.Helper()
	room := append(slices.Clone(l), m("behind", 7), m("further", 8))
	was := slices.Clone(room)
	return room[:len(l)], func() {
		t.Helper()
		if !slices.Equal(room, was) {
			t.Fatalf("what was handed in is changed: %v, was %v", room, was)
		}
	}
}

// wantOwn looks at whether an answer, with its spare room, is memory that the argument has nothing of.
func wantOwn(t *testing.T, l, got []api.Mark) {
	t.Helper()
	before, all := slices.Clone(l[:cap(l)]), got[:cap(got)]
	for i := range all {
		all[i] = m("changed", -5)
	}
	if !slices.Equal(l[:cap(l)], before) {
		t.Fatalf("an answer shares memory with %v", l)
	}
}

// wantList holds an answer against marks; nil and empty lists are the same.
func wantList(t *testing.T, what string, got, want []api.Mark) {
	t.Helper()
	if !slices.Equal(got, want) {
		t.Fatalf("%s: %v, want %v", what, got, want)
	}
}

// wantFind holds Find against a place, or none.
func wantFind(t *testing.T, l []api.Mark, name string, at int, ok bool) {
	t.Helper()
	l, look := kept(t, l)
	if got, is := Find(l, name); got != at || is != ok {
		t.Fatalf("Find(%v, %q): %d, %v, want %d, %v", l, name, got, is, at, ok)
	}
	look()
}

// wantSet holds Set against marks, or an error and none beside it.
func wantSet(t *testing.T, l []api.Mark, x api.Mark, want []api.Mark, wrong api.Errno) {
	t.Helper()
	l, look := kept(t, l)
	got, err := Set(l, x)
	if err != wrong {
		t.Fatalf("Set(%v, %v): %s, want %s", l, x, api.Text(err), api.Text(wrong))
	}
	wantList(t, fmt.Sprintf("Set(%v, %v)", l, x), got, want)
	look()
	wantOwn(t, l, got)
}

// wantDrop holds Drop against marks, or an error and none beside it.
func wantDrop(t *testing.T, l []api.Mark, name string, want []api.Mark, wrong api.Errno) {
	t.Helper()
	l, look := kept(t, l)
	got, err := Drop(l, name)
	if err != wrong {
		t.Fatalf("Drop(%v, %q): %s, want %s", l, name, api.Text(err), api.Text(wrong))
	}
	wantList(t, fmt.Sprintf("Drop(%v, %q)", l, name), got, want)
	look()
	wantOwn(t, l, got)
}

// wantShift holds Shift against marks.
func wantShift(t *testing.T, l []api.Mark, e api.Edit, want []api.Mark) {
	t.Helper()
	l, look := kept(t, l)
	got := Shift(l, e)
	wantList(t, fmt.Sprintf("Shift(%v, %v)", l, e), got, want)
	look()
	wantOwn(t, l, got)
}

// wantRight holds Right against what it is to tell.
func wantRight(t *testing.T, l []api.Mark, text string, want bool) {
	t.Helper()
	l, look := kept(t, l)
	if got := Right(l, text); got != want {
		t.Fatalf("Right(%v, %.40q): %v", l, text, got)
	}
	look()
}

// wantBetween holds Between against marks.
func wantBetween(t *testing.T, l []api.Mark, from, to int, want []api.Mark) {
	t.Helper()
	l, look := kept(t, l)
	got := Between(l, from, to)
	wantList(t, fmt.Sprintf("Between(%v, %d, %d)", l, from, to), got, want)
	look()
	wantOwn(t, l, got)
}

// wantNear holds Near against a mark, or none.
func wantNear(t *testing.T, l []api.Mark, at int, want api.Mark, ok bool) {
	t.Helper()
	l, look := kept(t, l)
	if got, is := Near(l, at); got != want || is != ok {
		t.Fatalf("Near(%v, %d): %v, %v, want %v, %v", l, at, got, is, want, ok)
	}
	look()
}

// right is the chapter's rule of marks that are right, spelt out: each of its questions by itself.
func right(l []api.Mark, text string) bool {
	var names []string
	may, stand := true, true
	for _, x := range l {
		names = append(names, x.Name)
		may = may && markIs.MatchString(x.Name)
		stand = stand && x.At >= 0 && x.At <= len(text) && (x.At == 0 || x.At == len(text) || text[x.At]&0xc0 != 0x80)
	}
	return len(l) <= 16 && may && stand && sort.StringsAreSorted(names) && len(slices.Compact(names)) == len(l)
}

// set is the chapter's rule of Set, spelt out by a map: lists whose names rise have no more in them.
func set(l []api.Mark, x api.Mark) ([]api.Mark, api.Errno) {
	if !markIs.MatchString(x.Name) {
		return nil, api.ErrName
	}
	all := table(l)
	if _, is := all[x.Name]; !is && len(l) >= 16 {
		return nil, api.ErrMany
	}
	all[x.Name] = x.At
	return rising(all), api.OK
}

// drop is the chapter's rule of Drop, spelt out by a map.
func drop(l []api.Mark, name string) ([]api.Mark, api.Errno) {
	all := table(l)
	if _, is := all[name]; !is {
		return nil, api.ErrNone
	}
	delete(all, name)
	return rising(all), api.OK
}

func table(l []api.Mark) map[string]int {
	all := map[string]int{}
	for _, x := range l {
		all[x.Name] = x.At
	}
	return all
}

func rising(all map[string]int) []api.Mark {
	var l []api.Mark
	for name, at := range all {
		l = append(l, m(name, at))
	}
	sort.Slice(l, func(i, j int) bool { return l[i].Name < l[j].Name })
	return l
}

// between is the chapter's rule of Between, spelt out: the marks of each place, one place behind the other.
func between(l []api.Mark, from, to int) []api.Mark {
	var some []api.Mark
	for at := from; at <= to; at++ {
		for _, x := range l {
			if x.At == at {
				some = append(some, x)
			}
		}
	}
	return some
}

// near is the chapter's rule of Near, spelt out: what stands so far away, further and further.
func near(l []api.Mark, at int) (api.Mark, bool) {
	for far := 0; far <= 4096 && len(l) > 0; far++ {
		for _, x := range l {
			if x.At == at-far || x.At == at+far {
				return x, true
			}
		}
	}
	return api.Mark{}, false
}

func TestTheExample(t *testing.T) { // P22.2
	wantSet(t, []api.Mark{m("a", 1), m("c", 2)}, m("b", 3), []api.Mark{m("a", 1), m("b", 3), m("c", 2)}, api.OK)
}

func TestFind(t *testing.T) { // P22.1
	l := []api.Mark{m("a", 5), m("ab", 0), m("b", 7), m("zzzzzzzz", 4096)}
	wantFind(t, l, "a", 5, true)
	wantFind(t, l, "ab", 0, true)
	wantFind(t, l, "b", 7, true)
	wantFind(t, l, "zzzzzzzz", 4096, true)
	for _, name := range []string{"", "aa", "abc", "c", "A", "a ", "zzzzzzz", "zzzzzzzzz", "\xff", "a\x00"} {
		wantFind(t, l, name, 0, false)
		wantFind(t, nil, name, 0, false)
		wantFind(t, []api.Mark{}, name, 0, false)
	}
}

func TestFindOfListsThatMayNotBe(t *testing.T) { // P22.1
	// names that do not rise, are there again, or may not be
	wantFind(t, []api.Mark{m("b", 1), m("a", 2), m("b", 3), m("a", 4)}, "b", 1, true)
	wantFind(t, []api.Mark{m("b", 1), m("a", 2), m("b", 3), m("a", 4)}, "a", 2, true)
	wantFind(t, []api.Mark{m("c", 1), m("b", 2), m("a", 3)}, "a", 3, true)
	wantFind(t, []api.Mark{m("c", 1), m("b", 2), m("a", 3)}, "c", 1, true)
	wantFind(t, []api.Mark{m("a", 1), m("", 2), m("\xff", 3), m("A1", 4)}, "", 2, true)
	wantFind(t, []api.Mark{m("a", 1), m("", 2), m("\xff", 3), m("A1", 4)}, "\xff", 3, true)
	wantFind(t, []api.Mark{m("a", 1), m("", 2), m("\xff", 3), m("A1", 4)}, "A1", 4, true)
	for _, at := range ends {
		wantFind(t, []api.Mark{m("b", 9), m("a", at), m("a", 9)}, "a", at, true)
	}
	l := many(300)
	for i := range l {
		wantFind(t, l, letters(i), i, true)
	}
	wantFind(t, l, "zz", 0, false)
}

func TestRightOfSomeMarks(t *testing.T) { // P22.1
	text := "a" + three + "b" // edges 0, 1, 4, 5
	for _, x := range []struct {
		l    []api.Mark
		want bool
	}{
		{nil, true},
		{[]api.Mark{}, true},
		{list(0), true},
		{list(1), true},
		{list(4), true},
		{list(5), true},
		{list(0, 1, 4, 5), true},
		{list(5, 4, 1, 0), true},
		{list(1, 1, 1), true},
		// places that there are not, or within a rune
		{list(-1), false},
		{list(2), false},
		{list(3), false},
		{list(6), false},
		{list(0, 1, 2), false},
		{list(2, 1, 0), false},
		{list(0, 6, 1), false},
		// names that may not be
		{[]api.Mark{m("", 0)}, false},
		{[]api.Mark{m("abcdefgh", 0)}, true},
		{[]api.Mark{m("abcdefghi", 0)}, false},
		{[]api.Mark{m("A", 0)}, false},
		{[]api.Mark{m("a1", 0)}, false},
		{[]api.Mark{m("", 0), m("a", 0)}, false},
		{[]api.Mark{m("a", 0), m(two, 0)}, false},
		{[]api.Mark{m("A", 0), m("a", 0), m("b", 0)}, false},
		// names that rise, and that do not
		{[]api.Mark{m("a", 0), m("b", 0)}, true},
		{[]api.Mark{m("b", 0), m("a", 0)}, false},
		{[]api.Mark{m("a", 0), m("a", 0)}, false},
		{[]api.Mark{m("a", 0), m("a", 1)}, false},
		{[]api.Mark{m("a", 0), m("c", 0), m("b", 0)}, false},
		{[]api.Mark{m("b", 0), m("a", 0), m("c", 0)}, false},
		{[]api.Mark{m("a", 0), m("b", 0), m("b", 0)}, false},
		{[]api.Mark{m("a", 0), m("aa", 0), m("ab", 0), m("b", 0), m("ba", 0)}, true},
		{[]api.Mark{m("aa", 0), m("a", 0)}, false},
		{[]api.Mark{m("b", 0), m("aa", 0)}, false},
		{[]api.Mark{m("zzzzzzz", 0), m("zzzzzzzz", 0)}, true},
	} {
		wantRight(t, x.l, text, x.want)
		if right(x.l, text) != x.want {
			t.Errorf("%v: the rule is spelt out wrongly", x.l)
		}
	}
}

func TestRightCountsMarks(t *testing.T) { // P22.1
	text := strings.Repeat("a", 300)
	for n := range 40 {
		wantRight(t, many(n), text, n <= 16)
	}
	wantRight(t, many(300), text, false)
	// The last one is looked at as the first one is.
	for i := range 16 {
		for _, wrong := range []api.Mark{m("A", 0), m(letters(i), 301), m(letters(i), -1), m(letters(i-1), 0), m(letters(i+1), 0)} {
			l := many(16)
			l[i] = wrong
			wantRight(t, l, text, right(l, text))
		}
	}
}

func TestRightOfAllPlaces(t *testing.T) { // P22.1
	long := strings.Repeat("a", 5000)
	// Texts that may not be, too: an edge is a place of any text.
	for _, text := range []string{"", "a", two, three, four, "a" + two + three + four + "\n", "\xff", "\x80", "a\x80\xbf", "\xe2\x82", long, long + three} {
		wantRight(t, nil, text, true)
		for _, at := range append([]int{3, 4, 5, 6, 7, 8, 9, 10, 11, 12, 4999, 5000, 5001, 5002, 5003, 5004}, ends...) {
			wantRight(t, list(at), text, right(list(at), text))
			wantRight(t, list(0, at), text, right(list(0, at), text))
			wantRight(t, list(at, len(text)), text, right(list(at, len(text)), text))
		}
	}
}

func TestRightIsAsTheChapterSpellsIt(t *testing.T) { // P22.1
	r := rand.New(rand.NewSource(22))
	yes := 0
	for range 20000 {
		text := drawnText(r, r.Intn(8))
		all := edges(text)
		l := many(r.Intn(18))
		for i := range l {
			l[i].At = all[r.Intn(len(all))]
		}
		for range r.Intn(3) {
			if len(l) == 0 {
				break
			}
			switch x := &l[r.Intn(len(l))]; r.Intn(4) {
			case 0:
				x.At += r.Intn(5) - 2
			case 1:
				x.Name = letters(r.Intn(20))
			case 2:
				x.Name = []string{"", "A", "a-", "abcdefghi"}[r.Intn(4)]
			}
		}
		if right(l, text) {
			yes++
		}
		wantRight(t, l, text, right(l, text))
	}
	if yes < 4000 || yes > 16000 {
		t.Errorf("%d lists of 20000 were right", yes)
	}
}

func TestSetOfSomeMarks(t *testing.T) { // P22.2
	ac := []api.Mark{m("a", 1), m("c", 2)}
	for _, x := range []struct {
		l    []api.Mark
		m    api.Mark
		want []api.Mark
		err  api.Errno
	}{
		{nil, m("a", 0), []api.Mark{m("a", 0)}, api.OK},
		{[]api.Mark{}, m("zzzzzzzz", 9), []api.Mark{m("zzzzzzzz", 9)}, api.OK},
		{ac, m("aa", 3), []api.Mark{m("a", 1), m("aa", 3), m("c", 2)}, api.OK},
		{ac, m("d", 3), []api.Mark{m("a", 1), m("c", 2), m("d", 3)}, api.OK},
		{[]api.Mark{m("b", 1)}, m("a", 2), []api.Mark{m("a", 2), m("b", 1)}, api.OK},
		{[]api.Mark{m("b", 1)}, m("az", 2), []api.Mark{m("az", 2), m("b", 1)}, api.OK},
		// in the place of the one of that name
		{ac, m("a", 3), []api.Mark{m("a", 3), m("c", 2)}, api.OK},
		{ac, m("c", 3), []api.Mark{m("a", 1), m("c", 3)}, api.OK},
		{ac, m("c", 2), ac, api.OK},
		// names that may not be, also where they are in the list
		{ac, m("", 3), nil, api.ErrName},
		{ac, m("B", 3), nil, api.ErrName},
		{ac, m("b1", 3), nil, api.ErrName},
		{ac, m("abcdefghi", 3), nil, api.ErrName},
		{ac, m(two, 3), nil, api.ErrName},
		{nil, m("\xff", 0), nil, api.ErrName},
		{[]api.Mark{m("", 1), m("B", 1)}, m("B", 2), nil, api.ErrName},
		{[]api.Mark{m("", 1), m("B", 1)}, m("a", 2), []api.Mark{m("", 1), m("B", 1), m("a", 2)}, api.OK},
		{[]api.Mark{m("B", 1), m("~", 1)}, m("a", 2), []api.Mark{m("B", 1), m("a", 2), m("~", 1)}, api.OK},
	} {
		wantSet(t, x.l, x.m, x.want, x.err)
	}
	// a place that no text has is kept as it is
	for _, at := range ends {
		wantSet(t, ac, m("b", at), []api.Mark{m("a", 1), m("b", at), m("c", 2)}, api.OK)
		wantSet(t, ac, m("a", at), []api.Mark{m("a", at), m("c", 2)}, api.OK)
	}
}

func TestSetCountsMarks(t *testing.T) { // P22.2
	for _, n := range []int{14, 15, 16, 17, 40} {
		l := many(n)
		for _, name := range []string{"a", "bz", "zzzzzzzz"} {
			want, err := set(l, m(name, 5))
			if (err == api.ErrMany) != (n >= 16) {
				t.Fatalf("of %d marks: %s", n, api.Text(err))
			}
			wantSet(t, l, m(name, 5), want, err)
		}
		// A mark that is there already is none more.
		for i := range n {
			want := many(n)
			want[i].At = 99
			wantSet(t, l, m(letters(i), 99), want, api.OK)
		}
		// What may not be comes ahead of what is too much.
		for _, name := range []string{"", "A", "aa1", "abcdefghi"} {
			wantSet(t, l, m(name, 5), nil, api.ErrName)
		}
	}
}

func TestDropOfSomeMarks(t *testing.T) { // P22.2
	abc := []api.Mark{m("a", 1), m("ab", 2), m("c", 3)}
	for _, x := range []struct {
		l    []api.Mark
		name string
		want []api.Mark
		err  api.Errno
	}{
		{abc, "a", []api.Mark{m("ab", 2), m("c", 3)}, api.OK},
		{abc, "ab", []api.Mark{m("a", 1), m("c", 3)}, api.OK},
		{abc, "c", []api.Mark{m("a", 1), m("ab", 2)}, api.OK},
		{[]api.Mark{m("a", 1)}, "a", nil, api.OK},
		{abc, "b", nil, api.ErrNone},
		{abc, "aa", nil, api.ErrNone},
		{abc, "d", nil, api.ErrNone},
		{nil, "a", nil, api.ErrNone},
		{[]api.Mark{}, "a", nil, api.ErrNone},
		// names that may not be
		{abc, "", nil, api.ErrNone},
		{abc, "A", nil, api.ErrNone},
		{abc, "abcdefghi", nil, api.ErrNone},
		{nil, "\xff", nil, api.ErrNone},
		{[]api.Mark{m("", 1), m("A", 2), m("a", 3)}, "A", []api.Mark{m("", 1), m("a", 3)}, api.OK},
		{[]api.Mark{m("", 1), m("A", 2), m("a", 3)}, "", []api.Mark{m("A", 2), m("a", 3)}, api.OK},
	} {
		wantDrop(t, x.l, x.name, x.want, x.err)
	}
	for i := range 40 {
		want, err := drop(many(40), letters(i))
		wantDrop(t, many(40), letters(i), want, err)
	}
}

func TestSetAndDropOfAllShortLists(t *testing.T) { // P22.2
	names := []string{"a", "aa", "ab", "b", "ba", "bb", "c"}
	for bits := range 1 << len(names) {
		var l []api.Mark
		for i, name := range names {
			if bits>>i&1 == 1 {
				l = append(l, m(name, i))
			}
		}
		for _, name := range append([]string{"", "A", "aaa", "az", "d", "a1"}, names...) {
			want, err := set(l, m(name, 77))
			wantSet(t, l, m(name, 77), want, err)
			want, err = drop(l, name)
			wantDrop(t, l, name, want, err)
		}
	}
}

func TestManySetsAndDropsOneBehindTheOther(t *testing.T) { // P22.2
	r := rand.New(rand.NewSource(222))
	text := strings.Repeat("a", 4096)
	var l []api.Mark
	full, none := 0, 0
	for range 20000 {
		x := m(letters(r.Intn(26)), r.Intn(4097))
		want, err := set(l, x)
		if r.Intn(3) > 0 {
			wantSet(t, l, x, want, err)
		} else {
			want, err = drop(l, x.Name)
			wantDrop(t, l, x.Name, want, err)
		}
		switch err {
		case api.OK:
			l = want
		case api.ErrMany:
			full++
		case api.ErrNone:
			none++
		}
		// What was right is so still.
		wantRight(t, l, text, true)
	}
	if full < 100 || none < 100 {
		t.Errorf("%d were too many, %d were not there", full, none)
	}
}

func TestShiftOfSomeMarks(t *testing.T) { // P22.2
	l := list(0, 3, 4, 5, 6, 7, 2, 3)
	wantShift(t, l, api.Edit{At: 3, New: "xy"}, list(0, 3, 6, 7, 8, 9, 2, 3))
	wantShift(t, l, api.Edit{At: 3, Old: "abc"}, list(0, 3, 3, 3, 3, 4, 2, 3))
	wantShift(t, l, api.Edit{At: 3, Old: "abc", New: "vwxyz"}, list(0, 3, 3, 3, 8, 9, 2, 3))
	wantShift(t, l, api.Edit{At: 3, Old: "abc", New: "xyz"}, list(0, 3, 3, 3, 6, 7, 2, 3))
	wantShift(t, l, api.Edit{At: 9, Old: "abc", New: "x"}, l)
	wantShift(t, l, api.Edit{}, l)
	wantShift(t, nil, api.Edit{At: 3, New: "xy"}, nil)
	wantShift(t, []api.Mark{}, api.Edit{At: 3, New: "xy"}, nil)
	// names are as they were, also those that may not be, do not rise, or are there again
	odd := []api.Mark{m("b", 1), m("", 4), m("b", 2), m("\xff", 9), m("A", -3)}
	wantShift(t, odd, api.Edit{At: 1, Old: "a", New: "xyz"}, []api.Mark{m("b", 1), m("", 6), m("b", 4), m("\xff", 11), m("A", -3)})
}

func TestShiftIsThatOfTheEditForEachMark(t *testing.T) { // P22.2
	l := list(ends...)
	texts := []string{"", "a", "abc", three, "\xff", strings.Repeat("a", 5000)}
	for _, at := range ends {
		for _, old := range texts {
			for _, new := range texts {
				e := api.Edit{At: at, Old: old, New: new}
				var want []api.Mark
				for _, x := range l {
					want = append(want, m(x.Name, edit.Shift(e, x.At)))
				}
				wantShift(t, l, e, want)
			}
		}
	}
}

func TestShiftedMarksAreRightForWhatTheEditMakes(t *testing.T) { // P22.3
	look := func(text string, l []api.Mark, e api.Edit) {
		t.Helper()
		s, err := edit.Apply(text, e)
		if err != api.OK || !utf8.ValidString(s) || !Right(l, text) {
			t.Fatalf("%v and %v are not right for %.40q", l, e, text)
		}
		got := Shift(l, e)
		if !Right(got, s) || !right(got, s) {
			t.Fatalf("%v, shifted by %v to %v, are not right for %.40q", l, e, got, s)
		}
	}
	r := rand.New(rand.NewSource(223))
	for range 5000 {
		text := drawnText(r, r.Intn(40))
		all := edges(text)
		l := many(r.Intn(17))
		for i := range l {
			l[i].At = all[r.Intn(len(all))]
		}
		i := r.Intn(len(all))
		j := i + r.Intn(len(all)-i)
		look(text, l, api.Edit{At: all[i], Old: text[all[i]:all[j]], New: drawnText(r, r.Intn(10))})
	}
	for _, text := range []string{"", "a", two + three, "a" + four + "b", strings.Repeat("a", 4096)} {
		all := edges(text)
		for _, from := range []int{0, len(all) / 2, len(all) - 1} {
			for _, to := range []int{from, len(all) - 1} {
				for _, at := range []int{0, len(all) / 2, len(all) - 1} {
					old := text[all[from]:all[to]]
					look(text, list(all[at]), api.Edit{At: all[from], Old: old})
					look(text, list(all[at]), api.Edit{At: all[from], Old: old, New: strings.Repeat("b", 4096-len(text)+len(old))})
				}
			}
		}
	}
}

func TestBetweenOfSomeMarks(t *testing.T) { // P22.4
	l := []api.Mark{m("a", 5), m("b", 3), m("c", 5), m("d", 0), m("e", 4096), m("f", 3)}
	for _, x := range []struct {
		from, to int
		want     []api.Mark
	}{
		{0, 4096, []api.Mark{m("d", 0), m("b", 3), m("f", 3), m("a", 5), m("c", 5), m("e", 4096)}},
		{0, 0, []api.Mark{m("d", 0)}},
		{4096, 4096, []api.Mark{m("e", 4096)}},
		{3, 5, []api.Mark{m("b", 3), m("f", 3), m("a", 5), m("c", 5)}},
		{3, 3, []api.Mark{m("b", 3), m("f", 3)}},
		{3, 4, []api.Mark{m("b", 3), m("f", 3)}},
		{4, 5, []api.Mark{m("a", 5), m("c", 5)}},
		{2, 3, []api.Mark{m("b", 3), m("f", 3)}},
		{4, 4, nil},
		{6, 4095, nil},
		{1, 2, nil},
		// no place is there from a place on to one ahead of it
		{5, 3, nil},
		{4096, 0, nil},
		{5, 4, nil},
	} {
		wantBetween(t, l, x.from, x.to, x.want)
	}
	wantBetween(t, nil, 0, 4096, nil)
	wantBetween(t, []api.Mark{}, 0, 0, nil)
}

func TestBetweenKeepsTheOrderOfOnePlace(t *testing.T) { // P22.4
	r := rand.New(rand.NewSource(224))
	// Many lists have more marks than a text, and names that do not rise: Between asks for neither.
	for range 300 {
		l := drawn(r, 200, 6)
		r.Shuffle(len(l), func(i, j int) { l[i], l[j] = l[j], l[i] })
		for from := range 8 {
			for to := range 8 {
				wantBetween(t, l, from, to, between(l, from, to))
			}
		}
	}
	wantBetween(t, many(400), 100, 299, many(400)[100:300])
	same := many(100)
	for i := range same {
		same[i].At = 7
	}
	wantBetween(t, same, 0, 4096, same)
	slices.Reverse(same)
	wantBetween(t, same, 7, 7, same)
}

func TestBetweenOfDrawnMarks(t *testing.T) { // P22.4
	r := rand.New(rand.NewSource(225))
	for _, most := range []int{0, 1, 10, 100, 4096} {
		for range 100 {
			l := drawn(r, 16, most)
			from := r.Intn(most + 1)
			to := from + r.Intn(most+1-from)
			wantBetween(t, l, from, to, between(l, from, to))
			wantBetween(t, l, 0, 4096, between(l, 0, 4096))
		}
	}
}

func TestNearOfSomeMarks(t *testing.T) { // P22.4
	l := []api.Mark{m("a", 10), m("b", 4), m("c", 10), m("d", 0), m("e", 4096), m("f", 4)}
	for _, x := range []struct {
		at   int
		want api.Mark
	}{
		{0, m("d", 0)},
		{1, m("d", 0)},
		// as near on both sides, or at one place: the first of the list
		{2, m("b", 4)},
		{3, m("b", 4)},
		{4, m("b", 4)},
		{6, m("b", 4)},
		{7, m("a", 10)},
		{8, m("a", 10)},
		{10, m("a", 10)},
		{2053, m("a", 10)},
		{2054, m("e", 4096)},
		{4096, m("e", 4096)},
	} {
		wantNear(t, l, x.at, x.want, true)
	}
	wantNear(t, []api.Mark{m("a", 4), m("b", 8)}, 6, m("a", 4), true)
	wantNear(t, []api.Mark{m("a", 8), m("b", 4)}, 6, m("a", 8), true)
	wantNear(t, []api.Mark{m("a", 9), m("b", 8), m("c", 4)}, 6, m("b", 8), true)
	wantNear(t, []api.Mark{m("a", 4096)}, 0, m("a", 4096), true)
	wantNear(t, []api.Mark{m("a", 0)}, 4096, m("a", 0), true)
	// the mark with nothing in it is one
	wantNear(t, []api.Mark{{}, m("a", 1)}, 0, api.Mark{}, true)
	for _, at := range ends {
		wantNear(t, nil, at, api.Mark{}, false)
		wantNear(t, []api.Mark{}, at, api.Mark{}, false)
	}
}

func TestNearOfDrawnMarks(t *testing.T) { // P22.4
	r := rand.New(rand.NewSource(226))
	for _, most := range []int{0, 1, 10, 100, 4096} {
		for range 500 {
			l := drawn(r, 40, most)
			at := r.Intn(4097)
			if r.Intn(4) > 0 {
				at = r.Intn(most + 1)
			}
			want, ok := near(l, at)
			wantNear(t, l, at, want, ok)
		}
	}
}

func TestPlacesAtTheEndsOfInts(t *testing.T) { // P1, R1, R6
	l := list(ends...)
	for i, from := range ends {
		for j, to := range ends {
			var want []api.Mark
			if i <= j {
				want = l[i : j+1]
			}
			wantBetween(t, l, from, to, want)
		}
		wantNear(t, l, from, l[i], true)
	}
	low, high := m("a", math.MinInt), m("b", math.MaxInt)
	for _, l := range [][]api.Mark{{low, high}, {high, low}} {
		wantNear(t, l, math.MinInt, low, true)
		wantNear(t, l, -1, low, true)
		wantNear(t, l, 0, high, true)
		wantNear(t, l, math.MaxInt, high, true)
	}
	// further from each other than an int can tell
	wantNear(t, []api.Mark{high, m("c", math.MinInt+9)}, math.MinInt, m("c", math.MinInt+9), true)
	wantNear(t, []api.Mark{low, m("c", -9)}, math.MaxInt, m("c", -9), true)
	wantNear(t, []api.Mark{low}, math.MaxInt, low, true)
	wantNear(t, []api.Mark{high}, math.MinInt, high, true)
}

func TestEveryCallTakesAnyListAndTellsTheSameAgain(t *testing.T) { // P1, R1, R3, R4
	r := rand.New(rand.NewSource(227))
	names := []string{"", "a", "b", "ab", "abcdefgh", "abcdefghi", "A", "\xff", three}
	texts := []string{"", "a", three, "\x80\xff", strings.Repeat("a", 4097)}
	for range 3000 {
		var l []api.Mark
		for range r.Intn(40) {
			l = append(l, m(names[r.Intn(len(names))], ends[r.Intn(len(ends))]))
		}
		name, text, at, to := names[r.Intn(len(names))], texts[r.Intn(len(texts))], ends[r.Intn(len(ends))], ends[r.Intn(len(ends))]
		e := api.Edit{At: at, Old: texts[r.Intn(len(texts))], New: text}
		tell := func(l []api.Mark, name, text string) string {
			l, look := kept(t, l)
			place, ok := Find(l, name)
			set, wrong := Set(l, m(name, at))
			dropped, none := Drop(l, name)
			mark, is := Near(l, at)
			look()
			if wrong != api.OK && len(set) > 0 || none != api.OK && len(dropped) > 0 {
				t.Fatalf("of %v and %q: something beside an error", l, name)
			}
			return fmt.Sprint(place, ok, set, wrong, dropped, none, mark, is, Shift(l, e), Right(l, text), Between(l, at, to))
		}
		if a, b := tell(l, name, text), tell(slices.Clone(l), strings.Clone(name), strings.Clone(text)); a != b {
			t.Fatalf("of %v: %s, then %s", l, a, b)
		}
	}
}
