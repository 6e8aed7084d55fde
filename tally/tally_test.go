package tally

import (
	"math"
	"math/big"
	"math/rand"
	"slices"
	"strings"
	"testing"

	"stylus/api"
	"stylus/utf"
)

// someTexts are texts with runes of all lengths, and texts that are not valid.
func someTexts() []string {
	l := []string{"", "a", "\n", "a\n", "\na", "\n\n\n", "a\r\nb\n", "\x00", "\u00e9", "\u20ac", "\U0001F600", "a\u00e9\u20ac\U0001F600\n",
		"\u010a\u0a0a\u2028\u0085", "\ufffd", "\xff", "\x80", "\x80\n\xbf", "\xe2\x82", "\xe2\n\xac\n", "\xf0\x9f\x98", "\xc0\x80", "\xed\xa0\x80",
		strings.Repeat("\u20ac\n", 300), strings.Repeat("\n", 1000), strings.Repeat("\x80", 1000)}
	r := rand.New(rand.NewSource(10))
	for n := range 40 {
		b := make([]byte, n)
		for i := range b {
			b[i] = "\n\na\x80\xbf\xc3\xe2\xf0\xff"[r.Intn(9)]
		}
		l = append(l, string(b))
	}
	return l
}

// someCounts are counts of texts, and counts that no text has, at the ends of ints too.
func someCounts() []api.Count {
	ends := []int{math.MinInt, math.MinInt + 1, -1, 0, 1, math.MaxInt - 1, math.MaxInt}
	l := []api.Count{{Bytes: 5, Runes: 3, Lines: 1}, {Bytes: -7, Runes: 11, Lines: -13}, {Bytes: 1 << 32, Runes: -1 << 32, Lines: 1<<31 - 1}}
	for _, a := range ends {
		for _, b := range ends {
			l = append(l, api.Count{Bytes: a, Runes: b, Lines: a}, api.Count{Bytes: a, Runes: a, Lines: b}, api.Count{Bytes: b, Runes: a, Lines: a})
		}
	}
	for _, s := range someTexts() {
		l = append(l, counted([]byte(s)))
	}
	return l
}

// counted is the chapter's rule of a count, byte by byte.
func counted(l []byte) api.Count {
	c := api.Count{}
	for _, b := range l {
		c.Bytes++
		if b < 128 || b > 191 {
			c.Runes++
		}
		if b == 10 {
			c.Lines++
		}
	}
	return c
}

// wrapped is a and sign times b, modulo 2^64 as an int has it, reckoned with numbers that do not wrap.
func wrapped(a, sign, b int) int {
	n := new(big.Int).Mul(big.NewInt(int64(sign)), big.NewInt(int64(b)))
	n.Add(n, big.NewInt(int64(a)))
	whole := new(big.Int).Lsh(big.NewInt(1), 64)
	n.Mod(n, whole)
	if n.Bit(63) == 1 {
		n.Sub(n, whole)
	}
	return int(n.Int64())
}

// put is wrapped of each number of both.
func put(a api.Count, sign int, b api.Count) api.Count {
	return api.Count{Bytes: wrapped(a.Bytes, sign, b.Bytes), Runes: wrapped(a.Runes, sign, b.Runes), Lines: wrapped(a.Lines, sign, b.Lines)}
}

// places are all places of s, and places that it does not have.
func places(s string) []int {
	l := []int{math.MinInt, math.MinInt + 1, -1 << 32, -2, -1, len(s) + 1, len(s) + 2, 1 << 32, math.MaxInt - 1, math.MaxInt}
	for at := range len(s) + 1 {
		l = append(l, at)
	}
	return l
}

func TestOfOfSomeTexts(t *testing.T) { // P4.1
	for _, x := range []struct {
		s    string
		want api.Count
	}{
		{"a\n", api.Count{Bytes: 2, Runes: 2, Lines: 1}},
		{"", api.Count{}},
		{"a", api.Count{Bytes: 1, Runes: 1}},
		{"\n", api.Count{Bytes: 1, Runes: 1, Lines: 1}},
		{"\r\n\n\u20ac\n", api.Count{Bytes: 7, Runes: 5, Lines: 3}},
		{"\u00e9\u20ac\U0001F600", api.Count{Bytes: 9, Runes: 3}},
		{"\u010a\u0a0a\u2028\u0085", api.Count{Bytes: 10, Runes: 4}},
		{"\x80\xbf", api.Count{Bytes: 2}},
		{"\x80\n\xbf", api.Count{Bytes: 3, Runes: 1, Lines: 1}},
		{"\xe2\x82", api.Count{Bytes: 2, Runes: 1}},
		{"\xff\xc0\n", api.Count{Bytes: 3, Runes: 3, Lines: 1}},
		{strings.Repeat("\u20ac\n", 1<<16), api.Count{Bytes: 1 << 18, Runes: 1 << 17, Lines: 1 << 16}},
	} {
		if got := Of(x.s); got != x.want {
			t.Errorf("Of of %d bytes, %.20q: %v, want %v", len(x.s), x.s, got, x.want)
		}
	}
}

func TestOfIsWhatUtfCounts(t *testing.T) { // P4.1
	for _, s := range someTexts() {
		if got, want := Of(s), counted([]byte(s)); got != want {
			t.Errorf("Of(%q): %v, want %v", s, got, want)
		}
		if got, want := Of(s), (api.Count{Bytes: len(s), Runes: utf.Runes(s), Lines: utf.Lines(s)}); got != want {
			t.Errorf("Of(%q): %v, but utf counts %v", s, got, want)
		}
	}
}

func TestAddOfNoneAndOfOne(t *testing.T) { // P4.1
	if got := Add(); got != (api.Count{}) {
		t.Errorf("Add of none: %v", got)
	}
	if got := Add([]api.Count{}...); got != Add(nil...) || got != (api.Count{}) {
		t.Errorf("Add of an empty list: %v", got)
	}
	for _, c := range someCounts() {
		if got := Add(c); got != c {
			t.Errorf("Add(%v): %v", c, got)
		}
	}
}

func TestAddOfSomeCounts(t *testing.T) { // P4.1
	a, b, c := api.Count{Bytes: 5, Runes: 3, Lines: 1}, api.Count{Bytes: 10, Runes: 20, Lines: 30}, api.Count{Bytes: -1, Runes: -2, Lines: -3}
	for _, x := range []struct {
		l    []api.Count
		want api.Count
	}{
		{[]api.Count{a, b}, api.Count{Bytes: 15, Runes: 23, Lines: 31}},
		{[]api.Count{a, b, c}, api.Count{Bytes: 14, Runes: 21, Lines: 28}},
		{[]api.Count{a, a, a, a}, api.Count{Bytes: 20, Runes: 12, Lines: 4}},
		{[]api.Count{c, c}, api.Count{Bytes: -2, Runes: -4, Lines: -6}},
		{[]api.Count{{}, a, {}, {}}, a},
		{[]api.Count{{Bytes: 1}, {Runes: 1}, {Lines: 1}}, api.Count{Bytes: 1, Runes: 1, Lines: 1}},
		{slices.Repeat([]api.Count{a}, 1<<16), api.Count{Bytes: 5 << 16, Runes: 3 << 16, Lines: 1 << 16}},
	} {
		if got := Add(x.l...); got != x.want {
			t.Errorf("Add of %d counts: %v, want %v", len(x.l), got, x.want)
		}
	}
}

func TestSubOfSomeCounts(t *testing.T) { // P4.1
	for _, x := range []struct{ a, b, want api.Count }{
		{api.Count{Bytes: 10, Runes: 20, Lines: 30}, api.Count{Bytes: 5, Runes: 3, Lines: 1}, api.Count{Bytes: 5, Runes: 17, Lines: 29}},
		{api.Count{Bytes: 5, Runes: 3, Lines: 1}, api.Count{Bytes: 10, Runes: 20, Lines: 30}, api.Count{Bytes: -5, Runes: -17, Lines: -29}},
		{api.Count{Bytes: 5, Runes: 3, Lines: 1}, api.Count{Bytes: 5, Runes: 3, Lines: 1}, api.Count{}},
		{api.Count{Bytes: 5, Runes: 3, Lines: 1}, api.Count{}, api.Count{Bytes: 5, Runes: 3, Lines: 1}},
		{api.Count{}, api.Count{Bytes: 5, Runes: 3, Lines: 1}, api.Count{Bytes: -5, Runes: -3, Lines: -1}},
		// counts that are the same in two of three numbers
		{api.Count{Bytes: 6, Runes: 3, Lines: 1}, api.Count{Bytes: 5, Runes: 3, Lines: 1}, api.Count{Bytes: 1}},
		{api.Count{Bytes: 5, Runes: 4, Lines: 1}, api.Count{Bytes: 5, Runes: 3, Lines: 1}, api.Count{Runes: 1}},
		{api.Count{Bytes: 5, Runes: 3, Lines: 2}, api.Count{Bytes: 5, Runes: 3, Lines: 1}, api.Count{Lines: 1}},
	} {
		if got := Sub(x.a, x.b); got != x.want {
			t.Errorf("Sub(%v, %v): %v, want %v", x.a, x.b, got, x.want)
		}
	}
}

func TestAddAndSubWrap(t *testing.T) { // P4.1
	one := api.Count{Bytes: 1, Runes: 1, Lines: 1}
	least := api.Count{Bytes: math.MinInt, Runes: math.MinInt, Lines: math.MinInt}
	greatest := api.Count{Bytes: math.MaxInt, Runes: math.MaxInt, Lines: math.MaxInt}
	if got := Add(greatest, one); got != least {
		t.Errorf("one more than the greatest: %v", got)
	}
	if got := Sub(least, one); got != greatest {
		t.Errorf("one less than the least: %v", got)
	}
	if got := Sub(api.Count{}, least); got != least {
		t.Errorf("the least taken from nothing: %v", got)
	}
	if got := Add(greatest, api.Count{Runes: 1}); got != (api.Count{Bytes: math.MaxInt, Runes: math.MinInt, Lines: math.MaxInt}) {
		t.Errorf("one number of three that wraps: %v", got)
	}
}

func TestAddAndSubOfEachTwoCounts(t *testing.T) { // P4.1
	for _, a := range someCounts() {
		for _, b := range someCounts() {
			if got, want := Add(a, b), put(a, 1, b); got != want {
				t.Fatalf("Add(%v, %v): %v, want %v", a, b, got, want)
			}
			if got, want := Sub(a, b), put(a, -1, b); got != want {
				t.Fatalf("Sub(%v, %v): %v, want %v", a, b, got, want)
			}
		}
	}
}

func TestHeadAtSomePlaces(t *testing.T) { // P4.2
	s := "a\n\u20ac\nb"
	for _, x := range []struct {
		at   int
		want api.Count
	}{
		{math.MinInt, api.Count{}},
		{-1, api.Count{}},
		{0, api.Count{}},
		{1, api.Count{Bytes: 1, Runes: 1}},
		{2, api.Count{Bytes: 2, Runes: 2, Lines: 1}},
		// within the rune that takes three bytes
		{3, api.Count{Bytes: 3, Runes: 3, Lines: 1}},
		{4, api.Count{Bytes: 4, Runes: 3, Lines: 1}},
		{5, api.Count{Bytes: 5, Runes: 3, Lines: 1}},
		{6, api.Count{Bytes: 6, Runes: 4, Lines: 2}},
		{7, api.Count{Bytes: 7, Runes: 5, Lines: 2}},
		{8, api.Count{Bytes: 7, Runes: 5, Lines: 2}},
		{math.MaxInt, api.Count{Bytes: 7, Runes: 5, Lines: 2}},
	} {
		if got := Head(s, x.at); got != x.want {
			t.Errorf("Head(%q, %d): %v, want %v", s, x.at, got, x.want)
		}
	}
}

func TestHeadIsOfTheFirstBytes(t *testing.T) { // P4.2
	for _, s := range someTexts() {
		for _, at := range places(s) {
			first := []byte(s)
			if at < len(s) {
				first = first[:max(at, 0)]
			}
			if got, want := Head(s, at), counted(first); got != want {
				t.Fatalf("Head(%q, %d): %v, want %v", s, at, got, want)
			}
		}
	}
}

func TestOfBothTogetherIsAddOfBoth(t *testing.T) { // P4.3
	for _, a := range someTexts() {
		for _, b := range someTexts() {
			whole := Of(a + b)
			if got := Add(Of(a), Of(b)); got != whole {
				t.Fatalf("Of(%q) and Of(%q): %v, together %v", a, b, got, whole)
			}
			if got := Sub(whole, Of(b)); got != Of(a) {
				t.Fatalf("Of(%q) taken from Of of it behind %q: %v", b, a, got)
			}
		}
	}
}

func TestOfIsAddOfAllItsParts(t *testing.T) { // P4.3
	for _, s := range someTexts() {
		var parts []api.Count
		for at := range len(s) {
			parts = append(parts, Of(s[at:at+1]))
			if got := Add(Head(s, at), Of(s[at:])); got != Of(s) {
				t.Fatalf("%q, cut at %d: %v, want %v", s, at, got, Of(s))
			}
		}
		if got := Add(parts...); got != Of(s) {
			t.Errorf("the bytes of %q, one by one: %v, want %v", s, got, Of(s))
		}
	}
}

func TestWhatIsAddedCanBeTakenAway(t *testing.T) { // P4.3
	for _, a := range someCounts() {
		for _, b := range someCounts() {
			if got := Sub(Add(a, b), b); got != a {
				t.Fatalf("%v added to %v and taken away: %v", b, a, got)
			}
			if got := Add(Sub(a, b), b); got != a {
				t.Fatalf("%v taken away from %v and added: %v", b, a, got)
			}
		}
	}
}

func TestAddLeavesItsListAsItIs(t *testing.T) { // R3
	room := []api.Count{{Bytes: 1, Runes: 2, Lines: 3}, {Bytes: 4, Runes: 5, Lines: 6}, {Bytes: 7, Runes: 8, Lines: 9}}
	was := slices.Clone(room)
	l := room[:2]
	sum := Add(l...)
	if !slices.Equal(room, was) {
		t.Errorf("the list, and the room behind it, are %v now, not %v", room, was)
	}
	l[0] = api.Count{}
	if sum != (api.Count{Bytes: 5, Runes: 7, Lines: 9}) {
		t.Errorf("the answer is %v once the list is changed", sum)
	}
}

func TestEveryCallTellsTheSameAgain(t *testing.T) { // P1, R1, R4
	for _, s := range someTexts() {
		if Of(s) != Of(strings.Clone(s)) {
			t.Errorf("Of(%q) is not the same again", s)
		}
		for _, at := range places(s) {
			if Head(s, at) != Head(strings.Clone(s), at) {
				t.Errorf("Head(%q, %d) is not the same again", s, at)
			}
		}
	}
	l := someCounts()
	all := Add(l...)
	slices.Reverse(l)
	if got := Add(l...); got != all {
		t.Errorf("Add hangs on the order: %v, then %v", all, got)
	}
}
