package knot

import (
	"math/bits"
	"math/rand"
	"slices"
	"strings"
	"testing"
	"time"
	"unicode/utf8"

	"stylus/api"
)

// Runes of two to four bytes.
const (
	two   = "\u00e9"
	three = "\u20ac"
	four  = "\U0001f600"
)

// someChunks are chunks of runes of all sizes, with line ends, of 1 to 16 bytes.
func someChunks() []string {
	return []string{"a", "b", "\n", "\x00", "\ufffd", two, three, four, "a\n", "\n\n\n", "x" + four + "\n" + three, strings.Repeat("y", 15), strings.Repeat("z", 16), strings.Repeat(four, 4), strings.Repeat("\n", 16), strings.Repeat(three, 5) + "c"}
}

// noChunks are texts that are none.
func noChunks() []string {
	return []string{"", strings.Repeat("a", 17), strings.Repeat(four, 4) + "a", strings.Repeat(three, 5) + two, strings.Repeat("a", 4096), "\xff", "\x80", "a\xe2\x82", "\xed\xa0\x80", "\xc0\x80", "\xf4\x90\x80\x80", strings.Repeat("a", 15) + "\xff", strings.Repeat("\x80", 17)}
}

// leaves are leaves of some chunks, over and over, so many of them.
func leaves(n int) []*Knot {
	some := someChunks()
	var l []*Knot
	for i := range n {
		l = append(l, Leaf(some[i%len(some)]))
	}
	return l
}

// ofHeight is a knot of that height, two under each.
func ofHeight(n int) *Knot {
	k := Leaf("a\n")
	for range n {
		k = Join(k, k)
	}
	return k
}

// unmade are knots that no call made.
func unmade() []*Knot { return []*Knot{nil, {}, new(Knot)} }

// counted is the count of a text, reckoned byte by byte.
func counted(s string) api.Count {
	return api.Count{Bytes: len(s), Runes: utf8.RuneCountInString(s), Lines: strings.Count(s, "\n")}
}

// shape is how many chunks stand under which knots: a leaf is a point, another knot its kids within brackets.
func shape(k *Knot) string {
	if k.Height() == 0 {
		return "."
	}
	s := "("
	for _, kid := range k.Kids() {
		s += shape(kid)
	}
	return s + ")"
}

// speltUp is the chapter's rule of a tree over knots, on their shapes.
func speltUp(l []string) string {
	for len(l) > 8 {
		var sizes []int
		left := len(l)
		for left >= 8 {
			sizes = append(sizes, 8)
			left -= 8
		}
		if left > 0 {
			sizes = append(sizes, left)
		}
		if n := len(sizes); sizes[n-1] == 1 {
			sizes[n-2], sizes[n-1] = 7, 2
		}
		var up []string
		for _, n := range sizes {
			up = append(up, "("+strings.Join(l[:n], "")+")")
			l = l[n:]
		}
		l = up
	}
	if len(l) == 1 {
		return l[0]
	}
	return "(" + strings.Join(l, "") + ")"
}

// speltRight is the chapter's rule of a knot, on what its calls tell.
func speltRight(k *Knot) bool {
	kids := k.Kids()
	if k.Height() == 0 {
		s := k.Text()
		return len(kids) == 0 && len(s) >= 1 && len(s) <= 16 && utf8.ValidString(s) && k.Count() == counted(s)
	}
	if len(kids) < 2 || len(kids) > 8 || k.Count() != counted(k.Text()) {
		return false
	}
	for _, kid := range kids {
		if kid.Height() != k.Height()-1 || !speltRight(kid) {
			return false
		}
	}
	return true
}

// wantKnot holds all that a knot tells against its height, kids and chunks.
func wantKnot(t *testing.T, what string, k *Knot, height int, kids []*Knot, chunks []string) {
	t.Helper()
	text, first, last := strings.Join(chunks, ""), "", ""
	if len(chunks) > 0 {
		first, last = chunks[0], chunks[len(chunks)-1]
	}
	if got := k.Height(); got != height {
		t.Fatalf("%s: height %d, want %d", what, got, height)
	}
	if got := k.Count(); got != counted(text) {
		t.Fatalf("%s: count %v, want %v", what, got, counted(text))
	}
	if got := k.Text(); got != text {
		t.Fatalf("%s: text %q, want %q", what, got, text)
	}
	if got := k.Kids(); !slices.Equal(got, kids) {
		t.Fatalf("%s: kids %v, want %v", what, got, kids)
	}
	if got := k.Chunks(); !slices.Equal(got, chunks) {
		t.Fatalf("%s: chunks %q, want %q", what, got, chunks)
	}
	if k.First() != first || k.Last() != last {
		t.Fatalf("%s: %q first and %q last, want %q and %q", what, k.First(), k.Last(), first, last)
	}
}

// wantNone holds that what was answered is nil.
func wantNone(t *testing.T, what string, k *Knot) {
	t.Helper()
	if k != nil {
		t.Fatalf("%s: a knot of height %d", what, k.Height())
	}
}

// chunksOf are all chunks of knots.
func chunksOf(l []*Knot) []string {
	var all []string
	for _, k := range l {
		all = append(all, k.Chunks()...)
	}
	return all
}

// inTime fails if f takes far longer than it may.
func inTime(t *testing.T, what string, f func()) {
	t.Helper()
	done := make(chan struct{})
	go func() {
		defer close(done)
		f()
	}()
	select {
	case <-done:
	case <-time.After(20 * time.Second):
		t.Fatalf("%s does not end", what)
	}
}

func TestLeaf(t *testing.T) { // P16.1, P16.2
	for _, s := range someChunks() {
		k := Leaf(s)
		wantKnot(t, "leaf "+s, k, 0, nil, []string{s})
		if !k.Right() {
			t.Errorf("Leaf(%q) is not right", s)
		}
	}
	for _, s := range noChunks() {
		wantNone(t, "Leaf of what is no chunk", Leaf(s))
	}
}

func TestJoin(t *testing.T) { // P16.1, P16.2
	k := Join(Leaf("a"), Leaf("b"))
	if k.Height() != 1 || k.Text() != "ab" {
		t.Errorf("Join of the leaves a, b: height %d, text %q", k.Height(), k.Text())
	}
	for n := 2; n <= 8; n++ {
		l := leaves(n)
		k := Join(l...)
		wantKnot(t, "over leaves", k, 1, l, chunksOf(l))
		if !k.Right() {
			t.Errorf("over %d leaves: not right", n)
		}
		up := []*Knot{k, Join(l[:2]...), Join(l[n-2:]...), Join(append(leaves(2), l[:n-2]...)...)}
		whole := Join(up...)
		wantKnot(t, "over knots", whole, 2, up, chunksOf(up))
		if !whole.Right() {
			t.Errorf("over knots of up to %d leaves: not right", n)
		}
	}
	for height := range 6 {
		k := ofHeight(height)
		wantKnot(t, "over the same", Join(k, k, k), height+1, []*Knot{k, k, k}, chunksOf([]*Knot{k, k, k}))
	}
}

func TestJoinOfTooFewAndTooMany(t *testing.T) { // P16.1
	wantNone(t, "Join of none", Join())
	wantNone(t, "Join of an empty list", Join([]*Knot{}...))
	for _, n := range []int{1, 9, 10, 16, 17, 64, 1000} {
		wantNone(t, "Join of leaves", Join(leaves(n)...))
		wantNone(t, "Join of higher knots", Join(slices.Repeat([]*Knot{ofHeight(2)}, n)...))
	}
}

func TestJoinAndUpOfWhatMayNotStandSideBySide(t *testing.T) { // P16.1
	for _, height := range []int{0, 1, 3} {
		others := append(unmade(), ofHeight(height+1), ofHeight(height+2))
		if height > 0 {
			others = append(others, ofHeight(height-1), ofHeight(0))
		}
		for _, other := range others {
			for n := 1; n <= 20; n++ {
				for at := range n {
					l := slices.Repeat([]*Knot{ofHeight(height)}, n)
					l[at] = other
					wantNone(t, "Join with another one", Join(l...))
					if n > 1 || other.Height() < 0 {
						wantNone(t, "Up with another one", Up(l))
					}
				}
			}
		}
	}
	for _, k := range unmade() {
		for n := range 20 {
			wantNone(t, "Join of those that no call made", Join(slices.Repeat([]*Knot{k}, n)...))
			wantNone(t, "Up of those that no call made", Up(slices.Repeat([]*Knot{k}, n)))
		}
	}
}

func TestUpOfNoneAndOfOne(t *testing.T) { // P16.1
	wantNone(t, "Up of none", Up(nil))
	wantNone(t, "Up of an empty list", Up([]*Knot{}))
	for height := range 5 {
		k := ofHeight(height)
		if got := Up([]*Knot{k}); got != k {
			t.Errorf("Up of one of height %d is another one", height)
		}
	}
}

func TestUpOfKnownSizes(t *testing.T) { // P16.1
	group := func(n int) string { return "(" + strings.Repeat(".", n) + ")" }
	eights := func(n int) string { return strings.Repeat(group(8), n) }
	for _, x := range []struct {
		n    int
		want string
	}{
		{1, "."}, {2, group(2)}, {3, group(3)}, {7, group(7)}, {8, group(8)},
		{9, "(" + group(7) + group(2) + ")"},
		{10, "(" + group(8) + group(2) + ")"},
		{15, "(" + group(8) + group(7) + ")"},
		{16, "(" + group(8) + group(8) + ")"},
		{17, "(" + group(8) + group(7) + group(2) + ")"},
		{18, "(" + eights(2) + group(2) + ")"},
		{63, "(" + eights(7) + group(7) + ")"},
		{64, "(" + eights(8) + ")"},
		{65, "((" + eights(7) + ")(" + group(7) + group(2) + "))"},
		{66, "((" + eights(7) + ")(" + group(8) + group(2) + "))"},
		{73, "((" + eights(8) + ")(" + group(7) + group(2) + "))"},
		{80, "((" + eights(8) + ")(" + eights(2) + "))"},
	} {
		if got := shape(Up(leaves(x.n))); got != x.want {
			t.Errorf("Up of %d leaves: %s, want %s", x.n, got, x.want)
		}
	}
}

func TestUpIsAsTheChapterSpellsIt(t *testing.T) { // P16.1, P16.3
	sizes := []int{1000, 4095, 4096, 4097, 4104, 4105}
	for n := range 600 {
		sizes = append(sizes, n+1)
	}
	for _, n := range sizes {
		for height := range 3 {
			one := ofHeight(height)
			l := slices.Repeat([]*Knot{one}, n)
			k := Up(l)
			if got, want := shape(k), speltUp(slices.Repeat([]string{shape(one)}, n)); got != want {
				t.Fatalf("Up of %d of height %d: %s, want %s", n, height, got, want)
			}
			if !k.Right() || k.Height() > bits.Len(uint(n<<height)) {
				t.Fatalf("Up of %d of height %d: height %d, right %v", n, height, k.Height(), k.Right())
			}
		}
		l := leaves(n)
		k := Up(l)
		if n > 1 {
			wantKnot(t, "Up of leaves", k, k.Kids()[0].Height()+1, k.Kids(), chunksOf(l))
		}
		if !slices.Equal(k.Chunks(), chunksOf(l)) {
			t.Fatalf("Up of %d leaves has other chunks", n)
		}
	}
}

func TestTheTreeWithoutChunks(t *testing.T) { // P16.2
	var k *Knot
	wantKnot(t, "nil", k, -1, nil, nil)
	if !k.Right() {
		t.Error("nil is not right")
	}
}

func TestKnotsThatNoCallMade(t *testing.T) { // P16.2, R5
	for _, k := range []*Knot{{}, new(Knot)} {
		wantKnot(t, "a zero value", k, -1, nil, nil)
		if k.Right() {
			t.Error("a zero value is right")
		}
	}
}

func TestRightFindsWhatIsNot(t *testing.T) { // P16.2
	a, b, ab := Leaf("a"), Leaf("b\n"), Join(Leaf("a"), Leaf("b\n"))
	// with is the knot over those kids, though a call may refuse it.
	with := func(kids ...*Knot) Knot {
		k := *ab
		k.kids = kids
		k.count, k.last = api.Count{}, ""
		for _, kid := range kids {
			c := kid.Count()
			k.count.Bytes += c.Bytes
			k.count.Runes += c.Runes
			k.count.Lines += c.Lines
			k.first, k.last = kids[0].First(), kid.Last()
		}
		return k
	}
	leaf := func(s string) Knot {
		return Knot{known: known{levels: 1, count: counted(s), first: s, last: s}}
	}
	if k := with(a, b); !k.Right() {
		t.Error("over two leaves: not right")
	}
	if k := leaf("abc"); !k.Right() {
		t.Error("a leaf: not right")
	}
	bad := []Knot{with(), with(a), with(leaves(9)...), with(a, nil), with(nil, a), with(a, &Knot{}), with(&Knot{}, &Knot{}), with(ab, ab), with(a, ab), with(ab, a)}
	for _, s := range noChunks() {
		bad = append(bad, leaf(s))
	}
	parted := leaf("ab\n")
	parted.kids = ab.kids
	bad = append(bad, parted)
	for i := range 8 {
		k, s := *ab, *a
		switch i {
		case 0:
			k.levels++
		case 1:
			k.levels--
		case 2:
			k.count.Bytes++
		case 3:
			k.count.Runes--
		case 4:
			k.count.Lines++
		case 5:
			k.first = "b"
		case 6:
			k.last = "b"
		case 7:
			k.levels, s.levels = 0, 0
		}
		s.count.Lines++
		bad = append(bad, k, s)
	}
	for i := range bad {
		if bad[i].Right() {
			t.Errorf("number %d of what is not right: %q, %v", i, bad[i].Chunks(), bad[i].Count())
		}
		// What is not right makes none that is, wherever it stands below: here each leaf of a tree in turn.
		for at := range 100 {
			l := leaves(100)
			whole := Up(l)
			*l[at] = bad[i]
			if whole.Right() {
				t.Fatalf("a tree with number %d of what is not right in it, at %d, is right", i, at)
			}
		}
	}
}

// drawnTree is a tree over drawn knots of one height, by one of the calls, with the chunks that stand below; nil if these are very many.
func drawnTree(r *rand.Rand, from []*Knot, chunksOf map[*Knot][]string) (*Knot, []*Knot, []string) {
	call, n := Up, 2+r.Intn(30)
	if r.Intn(2) == 0 {
		call, n = func(l []*Knot) *Knot { return Join(l...) }, 2+r.Intn(7)
	}
	var l []*Knot
	var chunks []string
	for range n {
		k := from[r.Intn(len(from))]
		l, chunks = append(l, k), append(chunks, chunksOf[k]...)
	}
	if len(chunks) > 3000 {
		return nil, nil, nil
	}
	return call(l), l, chunks
}

func TestWhateverIsMadeOfChunks(t *testing.T) { // P16.2, P16.3
	r := rand.New(rand.NewSource(16))
	highest := 0
	for range 40 {
		var of [20][]*Knot // by their heights
		of[0] = leaves(20)
		chunks := map[*Knot][]string{}
		for _, k := range of[0] {
			chunks[k] = k.Chunks()
		}
		top := 0
		for range 60 {
			k, l, want := drawnTree(r, of[r.Intn(top+1)], chunks)
			if k == nil {
				continue
			}
			kids := l
			if len(l) > 8 {
				kids = k.Kids()
			}
			wantKnot(t, "a drawn tree", k, kids[0].Height()+1, kids, want)
			if !k.Right() || !speltRight(k) {
				t.Fatalf("a drawn tree is not right: %s", shape(k))
			}
			if k.Height() > bits.Len(uint(len(want))) {
				t.Fatalf("a tree of %d chunks has the height %d", len(want), k.Height())
			}
			chunks[k] = want
			// A tree of many knots is higher than these by more than one, and those between are its kids.
			for below := k; below.Height() > 0 && of[below.Height()] == nil; below = below.Kids()[0] {
				of[below.Height()] = []*Knot{below}
				chunks[below] = below.Chunks()
			}
			of[k.Height()] = append(of[k.Height()], k)
			top = max(top, k.Height())
		}
		highest = max(highest, top)
	}
	if highest < 5 {
		t.Errorf("no drawn tree is higher than %d", highest)
	}
}

func TestWhatIsHandedInIsLeftAndNotKept(t *testing.T) { // R3
	for _, n := range []int{2, 8, 9, 17, 73} {
		room := leaves(n + 3)
		was := slices.Clone(room)
		l := room[:n]
		made := []*Knot{Up(l)}
		if n <= 8 {
			made = append(made, Join(l...))
		}
		if !slices.Equal(room, was) {
			t.Fatalf("of %d: the list, or the room behind it, was changed", n)
		}
		for i := range room {
			room[i] = nil
		}
		for _, k := range made {
			if !k.Right() || !slices.Equal(k.Chunks(), chunksOf(was[:n])) {
				t.Fatalf("of %d: the list's change changes the tree", n)
			}
		}
	}
}

func TestAnswersAreNewMemory(t *testing.T) { // R3, R4
	for _, k := range []*Knot{Leaf("a"), Join(leaves(2)...), Join(leaves(5)...), Up(leaves(9)), Up(leaves(100))} {
		kids, chunks := k.Kids(), k.Chunks()
		wasKids, wasChunks := slices.Clone(kids), slices.Clone(chunks)
		otherKids, otherChunks := k.Kids(), k.Chunks()
		for i := range kids {
			kids[i] = nil
		}
		for i := range chunks {
			chunks[i] = "other"
		}
		for _, x := range [][]*Knot{kids[:cap(kids)], append(kids, nil, nil, nil)} {
			clear(x)
		}
		for _, x := range [][]string{chunks[:cap(chunks)], append(chunks, "x", "y", "z")} {
			clear(x)
		}
		if !slices.Equal(otherKids, wasKids) || !slices.Equal(otherChunks, wasChunks) {
			t.Fatal("two answers share memory")
		}
		height := 0
		if len(wasKids) > 0 {
			height = wasKids[0].Height() + 1
		}
		wantKnot(t, "behind a change of its answers", k, height, wasKids, wasChunks)
		if !k.Right() {
			t.Fatal("a change of answers changes the tree")
		}
	}
}

func TestAKnotThatStandsInATreeVeryOften(t *testing.T) { // P16.2, R1
	inTime(t, "a tree of the same knots", func() {
		k := Leaf("a\n")
		for height := range 61 {
			if k.Height() != height || k.First() != "a\n" || k.Last() != "a\n" || !k.Right() {
				t.Errorf("height %d, want %d", k.Height(), height)
			}
			if want := (api.Count{Bytes: 2 << height, Runes: 2 << height, Lines: 1 << height}); k.Count() != want {
				t.Errorf("count at height %d: %v, want %v", height, k.Count(), want)
			}
			k = Join(k, k)
		}
		// Of more than an int tells the count wraps, as chapter 4 says of sums.
		for range 2000 {
			k = Join(k, k, k, k, k, k, k, k)
		}
		if k.Height() != 2061 || k.Count() != (api.Count{}) || k.First() != "a\n" || !k.Right() || Up(slices.Repeat([]*Knot{k}, 9)).Height() != 2063 {
			t.Errorf("height %d, count %v", k.Height(), k.Count())
		}
	})
}

func TestACopyOfAKnotIsAsIt(t *testing.T) { // R1
	l := leaves(9)
	k := *Up(l)
	wantKnot(t, "a copy", &k, 2, k.Kids(), chunksOf(l))
	if !k.Right() || Join(&k, &k).Height() != 3 {
		t.Error("a copy is none")
	}
}

func TestAKnotThatIsLaidOverAnother(t *testing.T) { // R1
	inTime(t, "a knot below itself", func() {
		for _, height := range []int{0, 1, 3} {
			for up := 1; up <= 3; up++ {
				k := ofHeight(height)
				whole := k
				for range up {
					whole = Join(whole, whole)
				}
				*k = *whole
				for _, x := range []*Knot{k, whole} {
					x.Text()
					x.Chunks()
					x.Kids()
					x.First()
					x.Last()
					if x.Right() {
						t.Error("a knot that stands below itself is right")
					}
					Up([]*Knot{x, x, x, x, x, x, x, x, x}).Right()
				}
			}
		}
	})
}
