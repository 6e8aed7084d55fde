package tape

import (
	"math"
	"math/rand"
	"strings"
	"testing"
)

// numbered has n bytes, of which none is 0 nor as the one 32 behind it.
func numbered(n int) string {
	b := make([]byte, n)
	for i := range b {
		b[i] = byte(i%251 + 1)
	}
	return string(b)
}

// turned is s with another byte at that place.
func turned(s string, at int) string {
	b := []byte(s)
	b[at] ^= 128
	return string(b)
}

// drawn is a text of n bytes of all kinds.
func drawn(r *rand.Rand, n int) string {
	b := make([]byte, n)
	for i := range b {
		b[i] = byte(r.Intn(256))
	}
	return string(b)
}

// zeros has n bytes 0.
func zeros(n int) string { return strings.Repeat("\x00", n) }

// someTexts are texts that end within sectors and at their ends, also texts that are not valid and bytes 0 alone.
func someTexts() []string {
	l := []string{"", "a", "\x00", "\xff", "\x80\n", "\u20ac", zeros(32), zeros(33), zeros(96), strings.Repeat("\u20ac", 21)}
	for _, n := range []int{2, 31, 32, 33, 64, 65, 96, 100} {
		s := numbered(n)
		l = append(l, s, turned(s, 0), turned(s, n-1))
	}
	return l
}

// someChoices are of each kind, alone and mixed, too few and too many.
func someChoices() []string {
	l := []string{"", "\x03\x04\x05", "\xfd\xfe\xff", "\x7f\x80\x81", zeros(9), strings.Repeat("\x01", 9), strings.Repeat("\x02", 9)}
	for i := range 27 {
		l = append(l, string([]byte{byte(i % 3), byte(i / 3 % 3), byte(i / 9)}))
	}
	return l
}

// ends are the ints at their ends.
func ends() []int { return []int{math.MinInt, math.MinInt + 1, math.MaxInt - 1, math.MaxInt} }

// plain is a tape that is kept as two texts, and crashes byte by byte.
type plain struct{ kept, now string }

// share is what the text has of the sector k, byte by byte.
func share(s string, k int) string {
	own := ""
	for i := range len(s) {
		if i/32 == k {
			own += s[i : i+1]
		}
	}
	return own
}

func (p plain) sectors() int {
	n := 0
	for n*32 < len(p.kept) || n*32 < len(p.now) {
		n++
	}
	return n
}

func (p plain) dirty() int {
	n := 0
	for k := range p.sectors() {
		if share(p.kept, k) != share(p.now, k) {
			n++
		}
	}
	return n
}

func (p *plain) cut(n int) bool {
	for have := 0; have <= len(p.now); have++ {
		if have == n {
			p.now = p.now[:n]
			return true
		}
	}
	return false
}

func (p *plain) crash(choices string) int {
	left, asked := "", 0
	for k := range p.sectors() {
		own := share(p.now, k)
		if share(p.kept, k) != own {
			choice := byte(0)
			if asked < len(choices) {
				choice = choices[asked] % 3
			}
			asked++
			switch choice {
			case 0:
				own = share(p.kept, k)
			case 2:
				own = zeros(len(own))
			}
		}
		if own != "" {
			left += zeros(k*32-len(left)) + own
		}
	}
	p.kept, p.now = left, left
	return asked
}

// check holds all that a tape tells against the plain one.
func check(t *testing.T, what string, x *Tape, p plain) {
	t.Helper()
	if x == nil {
		t.Fatalf("%s: no tape", what)
	}
	if x.Kept() != p.kept || x.Now() != p.now {
		t.Fatalf("%s: %q lasts and %q is seen, want %q and %q", what, x.Kept(), x.Now(), p.kept, p.now)
	}
	if x.Dirty() != p.dirty() || x.Sectors() != p.sectors() {
		t.Fatalf("%s: Dirty %d, Sectors %d, want %d, %d", what, x.Dirty(), x.Sectors(), p.dirty(), p.sectors())
	}
}

func TestANewTapeIsEmpty(t *testing.T) { // P7.1
	x, y := New(), New()
	check(t, "New", x, plain{})
	x.Append("a")
	check(t, "the other one", y, plain{})
	check(t, "this one", x, plain{now: "a"})
}

func TestALoadedTapeIsOfThese(t *testing.T) { // P7.1
	for _, kept := range someTexts() {
		for _, now := range someTexts() {
			check(t, "Load", Load(kept, now), plain{kept, now})
		}
	}
}

func TestAppendIsSeenBehindTheOthers(t *testing.T) { // P7.1
	for _, now := range someTexts() {
		for _, s := range someTexts() {
			x := Load("kept", now)
			x.Append(s)
			check(t, "Append", x, plain{"kept", now + s})
			x.Append("z")
			check(t, "Append again", x, plain{"kept", now + s + "z"})
			x.Append("")
			check(t, "Append of nothing", x, plain{"kept", now + s + "z"})
		}
	}
}

func TestCutLeavesTheFirstBytes(t *testing.T) { // P7.1
	for _, now := range someTexts() {
		for n := range len(now) + 1 {
			x := Load("what lasts", now)
			if !x.Cut(n) {
				t.Fatalf("Cut(%d) of %q: false", n, now)
			}
			check(t, "Cut", x, plain{"what lasts", now[:n]})
			x.Append("b")
			check(t, "Append behind Cut", x, plain{"what lasts", now[:n] + "b"})
		}
	}
}

func TestCutOfWhatThereIsNotChangesNothing(t *testing.T) { // P7.1
	for _, now := range someTexts() {
		for _, n := range append(ends(), -33, -32, -2, -1, len(now)+1, len(now)+2, len(now)+32) {
			x := Load(now+"more lasts", now)
			if x.Cut(n) {
				t.Fatalf("Cut(%d) of %q: true", n, now)
			}
			check(t, "Cut", x, plain{now + "more lasts", now})
		}
	}
}

func TestCutLooksAtWhatIsSeenAlone(t *testing.T) { // P7.1
	x := Load("", "abc")
	if !x.Cut(3) || !x.Cut(2) || x.Cut(3) || !x.Cut(0) || x.Cut(1) || !x.Cut(0) {
		t.Fatal("Cut hangs on what was seen ahead, or on what lasts")
	}
	check(t, "Cut of all", x, plain{})
}

func TestSyncLetsLastWhatIsSeen(t *testing.T) { // P7.1
	for _, kept := range someTexts() {
		for _, now := range someTexts() {
			x := Load(kept, now)
			x.Sync()
			check(t, "Sync", x, plain{now, now})
			x.Append("b")
			check(t, "Append behind Sync", x, plain{now, now + "b"})
			x.Cut(0)
			check(t, "Cut behind Sync", x, plain{now, ""})
			x.Sync()
			check(t, "Sync again", x, plain{})
		}
	}
}

func TestDirtyAndSectors(t *testing.T) { // P7.2
	s := numbered(100)
	for _, x := range []struct {
		kept, now      string
		dirty, sectors int
	}{
		{"", "", 0, 0},
		{"", "a", 1, 1},
		{"a", "", 1, 1},
		{"a", "a", 0, 1},
		{"a", "b", 1, 1},
		// what ends earlier is not as what has bytes 0 there
		{"a", "a\x00", 1, 1},
		{"", "\x00", 1, 1},
		{s[:32], s[:32], 0, 1},
		{s[:32], s[:33], 1, 2},
		{s[:33], s[:32], 1, 2},
		{s[:31], s[:33], 2, 2},
		{s, "", 4, 4},
		{"", s, 4, 4},
		{s, s[:64], 2, 4},
		{s[:64], s, 2, 4},
		{s, turned(s, 40), 1, 4},
		{s, turned(turned(s, 0), 99), 2, 4},
		{s, turned(s[:40], 0), 4, 4},
	} {
		y := Load(x.kept, x.now)
		if y.Dirty() != x.dirty || y.Sectors() != x.sectors {
			t.Errorf("of %q and %q: Dirty %d, Sectors %d, want %d, %d", x.kept, x.now, y.Dirty(), y.Sectors(), x.dirty, x.sectors)
		}
	}
}

func TestCrashMixesBothViews(t *testing.T) { // P7.2
	s := numbered(96)
	all := turned(turned(turned(s, 0), 40), 95)
	for _, x := range []struct {
		kept, now, choices, want string
		n                        int
	}{
		{"", "ab", "", "", 1},
		{"", "ab", "\x00", "", 1},
		{"", "ab", "\x01", "ab", 1},
		{"", "ab", "\x02", "\x00\x00", 1},
		{"ab", "", "", "ab", 1},
		{"ab", "", "\x01", "", 1},
		{"ab", "ab", "\x02", "ab", 0},
		{"", "", "\x01", "", 0},
		{s, all, "\x01\x02\x00", all[:32] + zeros(32) + s[64:], 3},
		{s, all, "\x02\x00\x04\x02", zeros(32) + s[32:64] + all[64:], 3},
		{s, turned(s, 40), "\x02\x01", s[:32] + zeros(32) + s[64:], 1},
		{"", s, "\x00\x01", zeros(32) + s[32:64], 3},
		{s, "", "\x01\x01", zeros(64) + s[64:], 3},
	} {
		y := Load(x.kept, x.now)
		if n := y.Crash(x.choices); n != x.n {
			t.Errorf("Crash(%q) of %q and %q: %d, want %d", x.choices, x.kept, x.now, n, x.n)
		}
		check(t, "Crash", y, plain{x.want, x.want})
	}
}

func TestCrashOfEachTwoViews(t *testing.T) { // P7.2
	for _, kept := range someTexts() {
		for _, now := range someTexts() {
			for _, choices := range someChoices() {
				x, p := Load(kept, now), plain{kept, now}
				if n, want := x.Crash(choices), p.crash(choices); n != want {
					t.Fatalf("Crash(%q) of %q and %q: %d, want %d", choices, kept, now, n, want)
				}
				check(t, "Crash", x, p)
			}
		}
	}
}

func TestASecondCrashTakesNothing(t *testing.T) { // P7.2
	for _, now := range someTexts() {
		x := Load(numbered(70), now)
		x.Crash("\x01\x02\x00")
		left := x.Now()
		for _, choices := range someChoices() {
			if n := x.Crash(choices); n != 0 {
				t.Fatalf("a second Crash asked for %d choices", n)
			}
			check(t, "a second Crash", x, plain{left, left})
		}
	}
}

func TestACopyIsAsItAndAnother(t *testing.T) { // P7.2
	changes := []func(*Tape){
		func(x *Tape) { x.Append("b") },
		func(x *Tape) { x.Cut(0) },
		func(x *Tape) { x.Sync() },
		func(x *Tape) { x.Crash("\x02\x01") },
	}
	for _, kept := range someTexts() {
		for _, now := range someTexts() {
			p := plain{kept, now}
			for _, change := range changes {
				x := Load(kept, now)
				y := x.Copy()
				check(t, "Copy", y, p)
				change(x)
				check(t, "the copy, where the tape was changed", y, p)
				x = y.Copy()
				change(x)
				check(t, "the tape, where the copy was changed", y, p)
			}
		}
	}
}

func TestACopyOfAnEmptyTapeIsATape(t *testing.T) { // P7.2
	x := New().Copy()
	check(t, "Copy", x, plain{})
	x.Append("a")
	x.Sync()
	check(t, "Copy", x, plain{"a", "a"})
	if x.Copy().Copy() == nil {
		t.Fatal("no copy of a copy")
	}
}

func TestFullSectorsThatWereSyncedAreThereBehindACrash(t *testing.T) { // P7.3
	for _, n := range []int{0, 32, 64, 96, 128} {
		s := numbered(n)
		for _, more := range someTexts() {
			for _, choices := range someChoices() {
				x := New()
				x.Append(s)
				x.Sync()
				x.Append(more)
				x.Append("z")
				x.Crash(choices)
				if got := x.Now(); !strings.HasPrefix(got, s) || got != x.Kept() {
					t.Fatalf("%d bytes synced, %q appended, Crash(%q): %q", n, more, choices, got)
				}
			}
		}
	}
}

func TestASectorThatIsNotFullMayBeLost(t *testing.T) { // P7.3
	s := numbered(40)
	for _, x := range []struct{ choices, want string }{
		{"", s},
		{"\x01", s + "z"},
		{"\x02", s[:32] + zeros(9)},
	} {
		y := Load(s, s)
		y.Append("z")
		y.Crash(x.choices)
		check(t, "Crash", y, plain{x.want, x.want})
	}
}

func TestATapeThatNoCallMadeIsEmptyForGood(t *testing.T) { // P7.1, P7.2, R5
	var zero Tape
	for _, x := range []*Tape{nil, &zero, new(Tape)} {
		for range 2 {
			check := func(what string) {
				t.Helper()
				if x.Now() != "" || x.Kept() != "" || x.Dirty() != 0 || x.Sectors() != 0 || x.Copy() != nil {
					t.Fatalf("behind %s: a tape that no call made is not empty", what)
				}
			}
			check("nothing")
			x.Append("a text")
			check("Append")
			x.Sync()
			check("Sync")
			for _, n := range append(ends(), -1, 0, 1, 6) {
				if x.Cut(n) {
					t.Fatalf("Cut(%d) of a tape that no call made: true", n)
				}
			}
			check("Cut")
			for _, choices := range someChoices() {
				if n := x.Crash(choices); n != 0 {
					t.Fatalf("Crash(%q) of a tape that no call made: %d", choices, n)
				}
			}
			check("Crash")
		}
	}
	if zero != (Tape{}) {
		t.Fatal("a zero value was changed")
	}
}

func TestTapesAreAsThePlainOnes(t *testing.T) { // P7.1, P7.2, R1
	r := rand.New(rand.NewSource(7))
	for range 300 {
		x, p := New(), plain{}
		for range 40 {
			switch r.Intn(8) {
			case 0, 1, 2:
				s := drawn(r, r.Intn(70))
				x.Append(s)
				p.now += s
			case 3:
				n := r.Intn(len(p.now)+4) - 2
				if got, want := x.Cut(n), p.cut(n); got != want {
					t.Fatalf("Cut(%d): %v, want %v", n, got, want)
				}
			case 4:
				x.Sync()
				p.kept = p.now
			case 5:
				choices := drawn(r, r.Intn(12))
				if got, want := x.Crash(choices), p.crash(choices); got != want {
					t.Fatalf("Crash(%q): %d, want %d", choices, got, want)
				}
			case 6:
				x = x.Copy()
			case 7:
				x = Load(x.Kept(), x.Now())
			}
			check(t, "a drawn call", x, p)
		}
	}
}

func TestATapeOfADiskFull(t *testing.T) { // P7.1, P7.2, P7.3
	old, more := strings.Repeat("a", 65536), strings.Repeat("b", 65536)
	x := New()
	x.Append(old)
	x.Sync()
	x.Append(more)
	if x.Dirty() != 2048 || x.Sectors() != 4096 || !x.Cut(131072) || x.Cut(131073) {
		t.Fatal("a tape of a disk full is not told")
	}
	if n := x.Crash(zeros(2047) + "\x01"); n != 2048 || x.Now() != old+zeros(65536-32)+more[:32] {
		t.Fatalf("Crash of a disk full: %d, %d bytes", n, len(x.Now()))
	}
}

func TestEveryCallTellsTheSameAgain(t *testing.T) { // P1, R1, R4
	for _, kept := range someTexts() {
		for _, now := range someTexts() {
			for _, choices := range someChoices()[:9] {
				x, y := Load(kept, now), Load(strings.Clone(kept), strings.Clone(now))
				for range 2 {
					if x.Now() != y.Now() || x.Kept() != y.Kept() || x.Dirty() != y.Dirty() || x.Sectors() != y.Sectors() {
						t.Fatalf("of %q and %q not the same again", kept, now)
					}
				}
				if x.Crash(choices) != y.Crash(strings.Clone(choices)) || x.Now() != y.Now() || x.Kept() != y.Kept() {
					t.Fatalf("Crash(%q) of %q and %q is not the same again", choices, kept, now)
				}
			}
		}
	}
}
