package title

import (
	"fmt"
	"math"
	"math/rand"
	"regexp"
	"strings"
	"testing"
)

// The same rules as the chapter's words have, written as patterns.
var (
	mayBe    = regexp.MustCompile(`\A[a-z0-9.-]{1,24}\z`)
	userIs   = regexp.MustCompile(`\A[a-z0-9]{1,16}\z`)
	checkIs  = regexp.MustCompile(`\Acheck-([0-9]{6})\z`)
	logIs    = regexp.MustCompile(`\Alog-([0-9]{6})-([0-9]{4})\z`)
	exportIs = regexp.MustCompile(`\Ax-([a-z0-9]{1,16})\z`)
	tempIs   = regexp.MustCompile(`\Atmp-`)
)

// digits is what s, digits alone, says.
func digits(s string) int {
	n := 0
	for _, c := range []byte(s) {
		n = n*10 + int(c-'0')
	}
	return n
}

// told is what the patterns tell of s.
func told(s string) Title {
	if m := checkIs.FindStringSubmatch(s); m != nil {
		return Title{Kind: 1, Epoch: digits(m[1])}
	}
	if m := logIs.FindStringSubmatch(s); m != nil {
		return Title{Kind: 2, Epoch: digits(m[1]), Part: digits(m[2])}
	}
	if m := exportIs.FindStringSubmatch(s); m != nil {
		return Title{Kind: 4, Name: m[1]}
	}
	if tempIs.MatchString(s) && mayBe.MatchString(s) {
		return Title{Kind: 3}
	}
	return Title{}
}

// someNumbers are numbers, those at the ends of epochs, of parts and of ints among them.
func someNumbers() []int {
	l := []int{math.MinInt, math.MinInt + 1, -1 << 32, -1000000, -999999, -10000, -2, -1, 0, 1, 2, 7, 9, 10, 42, 99, 100, 999, 1000, 9998, 9999, 10000, 10001,
		65535, 65536, 99999, 100000, 123456, 999998, 999999, 1000000, 1000001, 9999999, 1<<31 - 1, 1 << 31, 1 << 32, 1<<32 + 1, math.MaxInt - 1, math.MaxInt}
	r := rand.New(rand.NewSource(7))
	for range 40 {
		l = append(l, r.Intn(10000), r.Intn(1000000), int(r.Uint64()))
	}
	return l
}

// someTexts are names, and what is none or nearly one.
func someTexts() []string {
	l := []string{"", "a", "z", "0", "9", "-", ".", "..", "a.b-c", "abcdefghijklmnopqrstuvwx", "abcdefghijklmnopqrstuvwxy", "0123456789abcdef", "0123456789abcdefg",
		"A", "aB", "Z", "_", "/", "a/b", " ", "a b", "a\n", "\na", "\x00", "a\x00", "\xff", "a\xff", "\u00e9", "\u20ac", "\u0661", "a\u0131", "{", "`", ":", ",", "@", "~"}
	for n := range 40 {
		l = append(l, strings.Repeat("a", n), strings.Repeat("-", n), strings.Repeat(".", n), strings.Repeat("7", n))
	}
	return append(l, strings.Repeat("a", 1<<16), strings.Repeat("0", 1<<16))
}

// someNames are names of all kinds, and what is nearly one.
func someNames() []string {
	l := someTexts()
	for _, head := range []string{"", "check-", "log-", "tmp-", "x-", "check", "log", "tmp", "x", "Check-", "LOG-", "Tmp-", "X-", "x--", "log--", " log-", "-x-", "chec-", "xx-", "tmp.", "tmp-check", "tmp-save"} {
		for _, rest := range someTexts()[:60] {
			l = append(l, head+rest)
		}
		for _, rest := range []string{"000000", "000001", "000042", "123456", "999999", "1", "00001", "0000001", "1000000", "000000000", "999999999", "9999999999",
			"000001-0002", "000000-0000", "999999-9999", "000001-002", "000001-00002", "00001-0002", "0000001-0002", "1-2", "000001-", "-0002", "-", "000001--0002", "000001-0002-", "000001-0002-0003",
			"000001.0002", "0000010002", "000001 0002", "+00001", "-00001", "00000a", "a00000", "0x0001", "000001-000a", "000001--002", "000001-+002", "00000\u0661", "000001-000\u0661",
			"000001\x00", "000001\n", " 000001", "000001-0002\n", "000001-0002 ", "check", "save", "checks", "save-1", "m", "0", "000000.1", "a-b", "a.b"} {
			l = append(l, head+rest)
		}
	}
	return l
}

// changed are all texts that differ from s by one byte that is another one, lacks, or is there once more.
func changed(s string) []string {
	var l []string
	for i := range len(s) + 1 {
		for _, b := range []byte("09azAZ-. _/:`{\x00\xff\n") {
			l = append(l, s[:i]+string([]byte{b})+s[i:])
			if i < len(s) {
				l = append(l, s[:i]+string([]byte{b})+s[i+1:])
			}
		}
		if i < len(s) {
			l = append(l, s[:i]+s[i+1:])
		}
	}
	return l
}

func TestKindsAreNumbered(t *testing.T) { // P8.3
	if Other != 0 || Check != 1 || Log != 2 || Temp != 3 || Export != 4 {
		t.Fatal("the kinds' numbers are not the chapter's")
	}
}

func TestMayOfSomeNames(t *testing.T) { // P8.1
	for _, x := range []struct {
		s    string
		want bool
	}{
		{"", false},
		{"a", true},
		{"-", true},
		{".", true},
		{"0", true},
		{"log-000001-0002", true},
		{"a.b-c9", true},
		{strings.Repeat("a", 24), true},
		{strings.Repeat("-", 24), true},
		{strings.Repeat("a", 25), false},
		{strings.Repeat("a", 23) + "A", false},
		{"A", false},
		{"a_b", false},
		{"a/b", false},
		{"a b", false},
		{"a\x00", false},
		{"\u00e9", false},
	} {
		if got := May(x.s); got != x.want {
			t.Errorf("May(%q): %v, want %v", x.s, got, x.want)
		}
	}
}

func TestUserOfSomeNames(t *testing.T) { // P8.1
	for _, x := range []struct {
		s    string
		want bool
	}{
		{"", false},
		{"a", true},
		{"0", true},
		{"m9", true},
		{strings.Repeat("z", 16), true},
		{strings.Repeat("z", 17), false},
		{strings.Repeat("9", 16), true},
		{strings.Repeat("9", 17), false},
		{strings.Repeat("z", 24), false},
		{"a-b", false},
		{"a.b", false},
		{"-", false},
		{".", false},
		{"M", false},
		{"a b", false},
		{"\xff", false},
	} {
		if got := User(x.s); got != x.want {
			t.Errorf("User(%q): %v, want %v", x.s, got, x.want)
		}
	}
}

func TestMayAndUserOfEachByte(t *testing.T) { // P8.1
	for _, form := range []string{"_", "a_", "_a", "a_a", "0123456789abcde_", "_0123456789abcde", "abcdefghijklmnopqrstuvw_", "_abcdefghijklmnopqrstuvw", "a_cdefghijklmnopqrstuvwxyz"} {
		for b := range 256 {
			s := strings.Replace(form, "_", string([]byte{byte(b)}), 1)
			if May(s) != mayBe.MatchString(s) {
				t.Errorf("May(%q): %v", s, May(s))
			}
			if User(s) != userIs.MatchString(s) {
				t.Errorf("User(%q): %v", s, User(s))
			}
		}
	}
}

func TestMayAndUserOfEachLength(t *testing.T) { // P8.1
	for _, s := range append(someNames(), "a\r", "a\n") {
		if May(s) != mayBe.MatchString(s) {
			t.Errorf("May of %d bytes %.40q: %v", len(s), s, May(s))
		}
		if User(s) != userIs.MatchString(s) {
			t.Errorf("User of %d bytes %.40q: %v", len(s), s, User(s))
		}
	}
}

func TestOfCheck(t *testing.T) { // P8.2
	for _, x := range []struct {
		epoch int
		want  string
	}{
		{0, "check-000000"},
		{1, "check-000001"},
		{42, "check-000042"},
		{123456, "check-123456"},
		{999999, "check-999999"},
		{1000000, ""},
		{-1, ""},
		{math.MinInt, ""},
		{math.MaxInt, ""},
		{1 << 32, ""},
	} {
		if got := OfCheck(x.epoch); got != x.want {
			t.Errorf("OfCheck(%d): %q, want %q", x.epoch, got, x.want)
		}
	}
}

func TestOfLog(t *testing.T) { // P8.2
	for _, x := range []struct {
		epoch, part int
		want        string
	}{
		{1, 2, "log-000001-0002"},
		{0, 0, "log-000000-0000"},
		{999999, 9999, "log-999999-9999"},
		{123456, 7890, "log-123456-7890"},
		{1000000, 0, ""},
		{0, 10000, ""},
		{9999, 10000, ""},
		{1000000, 10000, ""},
		{-1, 0, ""},
		{0, -1, ""},
		{-1, -1, ""},
		{math.MinInt, math.MaxInt, ""},
		{math.MaxInt, math.MinInt, ""},
		{0, 1 << 32, ""},
		{1 << 32, 0, ""},
	} {
		if got := OfLog(x.epoch, x.part); got != x.want {
			t.Errorf("OfLog(%d, %d): %q, want %q", x.epoch, x.part, got, x.want)
		}
	}
}

func TestOfCheckAndOfLogAtSomeNumbers(t *testing.T) { // P8.2
	for _, epoch := range someNumbers() {
		want, may := "", epoch >= 0 && epoch <= 999999
		if may {
			want = fmt.Sprintf("check-%06d", epoch)
		}
		if got := OfCheck(epoch); got != want {
			t.Errorf("OfCheck(%d): %q, want %q", epoch, got, want)
		}
		for _, part := range someNumbers() {
			want := ""
			if may && part >= 0 && part <= 9999 {
				want = fmt.Sprintf("log-%06d-%04d", epoch, part)
			}
			if got := OfLog(epoch, part); got != want {
				t.Errorf("OfLog(%d, %d): %q, want %q", epoch, part, got, want)
			}
		}
	}
}

func TestOfExport(t *testing.T) { // P8.2
	for _, x := range []struct{ name, want string }{
		{"m", "x-m"},
		{"0", "x-0"},
		{"0123456789abcdef", "x-0123456789abcdef"},
		{"0123456789abcdefg", ""},
		{"", ""},
		{"a-b", ""},
		{"a.b", ""},
		{"A", ""},
		{"x-m", ""},
	} {
		if got := OfExport(x.name); got != x.want {
			t.Errorf("OfExport(%q): %q, want %q", x.name, got, x.want)
		}
	}
	for _, name := range someNames() {
		want := ""
		if userIs.MatchString(name) {
			want = "x-" + name
		}
		if got := OfExport(name); got != want {
			t.Errorf("OfExport(%.40q): %q, want %q", name, got, want)
		}
	}
}

func TestTempNames(t *testing.T) { // P8.2
	if TempCheck() != "tmp-check" || TempSave() != "tmp-save" {
		t.Fatalf("TempCheck %q, TempSave %q", TempCheck(), TempSave())
	}
}

func TestReadOfSomeNames(t *testing.T) { // P8.3
	for _, x := range []struct {
		s    string
		want Title
	}{
		{"check-000000", Title{Kind: Check}},
		{"check-000042", Title{Kind: Check, Epoch: 42}},
		{"check-999999", Title{Kind: Check, Epoch: 999999}},
		{"log-000000-0000", Title{Kind: Log}},
		{"log-000001-0002", Title{Kind: Log, Epoch: 1, Part: 2}},
		{"log-000001-0000", Title{Kind: Log, Epoch: 1}},
		{"log-999999-9999", Title{Kind: Log, Epoch: 999999, Part: 9999}},
		{"x-m", Title{Kind: Export, Name: "m"}},
		{"x-000001", Title{Kind: Export, Name: "000001"}},
		{"x-check", Title{Kind: Export, Name: "check"}},
		{"x-0123456789abcdef", Title{Kind: Export, Name: "0123456789abcdef"}},
		{"tmp-check", Title{Kind: Temp}},
		{"tmp-save", Title{Kind: Temp}},
		{"tmp-", Title{Kind: Temp}},
		{"tmp-000001", Title{Kind: Temp}},
		{"tmp-log-000001-0002", Title{Kind: Temp}},
		{"tmp--.", Title{Kind: Temp}},
		{"tmp-" + strings.Repeat("a", 20), Title{Kind: Temp}},
	} {
		if got := Read(x.s); got != x.want {
			t.Errorf("Read(%q): %+v, want %+v", x.s, got, x.want)
		}
	}
}

func TestReadOfWhatIsNoneIsOther(t *testing.T) { // P8.3
	for _, s := range []string{"", "a", "check-", "check-1", "check-00001", "check-0000001", "check-1000000", "check-000000000", "check-00000a", "check-+00001", "check--00001", "check-000001-", "check-000001-0002", "check-000001\n", "Check-000001",
		"log-", "log-000001", "log-000001-", "log-000001-002", "log-000001-00002", "log-00001-0002", "log-0000001-0002", "log--0002", "log-1-2", "log-000001-0002-", "log-000001-0002-0003", "log-000001--002", "log-000001-000a", "log-0000010002", "log-000001.0002", "LOG-000001-0002",
		"x-", "x-0123456789abcdefg", "x-a-b", "x-a.b", "x-A", "x-\u00e9", "x-a\x00", "X-m", "xm", "x", "xx-m", " x-m", "x-x-m",
		"tmp", "tmp-" + strings.Repeat("a", 21), "tmp-A", "tmp-a_b", "tmp-a b", "tmp-\x00", "tmp-\xff", "tmp-check\n", "Tmp-check", "atmp-check", "-tmp-", "tmp.check", "tmpcheck",
		"check", "log", "save", "000001", "000001-0002"} {
		if got := Read(s); got != (Title{}) {
			t.Errorf("Read(%q): %+v, want Other", s, got)
		}
	}
}

func TestReadOfManyNames(t *testing.T) { // P8.3
	kinds := map[int]int{}
	for _, s := range someNames() {
		if got, want := Read(s), told(s); got != want {
			t.Errorf("Read(%.40q): %+v, want %+v", s, got, want)
		}
		kinds[told(s).Kind]++
	}
	if len(kinds) != 5 {
		t.Fatalf("not all kinds are among the names: %v", kinds)
	}
}

func TestReadOfWhatIsNearlyAName(t *testing.T) { // P8.3
	for _, s := range []string{OfCheck(0), OfCheck(90210), OfCheck(999999), OfLog(0, 0), OfLog(1, 2), OfLog(999999, 9999), OfExport("m"), OfExport("0123456789abcdef"), TempCheck(), TempSave(), "tmp-" + strings.Repeat("a", 20), "tmp-"} {
		for _, near := range changed(s) {
			if got, want := Read(near), told(near); got != want {
				t.Errorf("Read(%q): %+v, want %+v", near, got, want)
			}
		}
	}
}

func TestWhatIsGivenIsRead(t *testing.T) { // P8.4
	for _, epoch := range someNumbers() {
		if s := OfCheck(epoch); s != "" && Read(s) != (Title{Kind: Check, Epoch: epoch}) {
			t.Errorf("Read of OfCheck(%d): %+v", epoch, Read(s))
		}
		for _, part := range someNumbers() {
			if s := OfLog(epoch, part); s != "" && Read(s) != (Title{Kind: Log, Epoch: epoch, Part: part}) {
				t.Errorf("Read of OfLog(%d, %d): %+v", epoch, part, Read(s))
			}
		}
	}
	for _, name := range someNames() {
		if s := OfExport(name); s != "" && Read(s) != (Title{Kind: Export, Name: name}) {
			t.Errorf("Read of OfExport(%q): %+v", name, Read(s))
		}
	}
	for _, s := range []string{TempCheck(), TempSave()} {
		if Read(s) != (Title{Kind: Temp}) {
			t.Errorf("Read(%q): %+v", s, Read(s))
		}
	}
}

func TestEachPartAndEachEpochIsRead(t *testing.T) { // P8.4
	for n := range 1000000 {
		if s := OfCheck(n); len(s) != 12 || Read(s) != (Title{Kind: Check, Epoch: n}) {
			t.Fatalf("Read of OfCheck(%d), which is %q: %+v", n, s, Read(s))
		}
	}
	for n := range 10000 {
		if s := OfLog(999999-n, n); len(s) != 15 || Read(s) != (Title{Kind: Log, Epoch: 999999 - n, Part: n}) {
			t.Fatalf("Read of OfLog(%d, %d), which is %q: %+v", 999999-n, n, s, Read(s))
		}
	}
}

func TestWhatIsReadIsGiven(t *testing.T) { // P8.3, P8.4
	for _, s := range someNames() {
		again := s
		switch x := Read(s); x.Kind {
		case Check:
			again = OfCheck(x.Epoch)
		case Log:
			again = OfLog(x.Epoch, x.Part)
		case Export:
			again = OfExport(x.Name)
		}
		if again != s {
			t.Errorf("what Read tells of %q is of %q", s, again)
		}
	}
}

func TestWhatIsGivenMayBe(t *testing.T) { // P8.1, P8.2
	for _, s := range []string{OfCheck(0), OfCheck(999999), OfLog(0, 0), OfLog(999999, 9999), OfExport("m"), OfExport(strings.Repeat("z", 16)), TempCheck(), TempSave()} {
		if !May(s) {
			t.Errorf("%q may not be", s)
		}
	}
}

func TestReadOfDrawnTexts(t *testing.T) { // P1, R1
	r := rand.New(rand.NewSource(8))
	for range 20000 {
		b := make([]byte, r.Intn(30))
		for i := range b {
			b[i] = "abchektmpsvlogx0123456789-.-."[r.Intn(29)]
		}
		s := []string{"", "check-", "log-", "x-", "tmp-", "log-000001-"}[r.Intn(6)] + string(b)
		if got, want := Read(s), told(s); got != want {
			t.Fatalf("Read(%q): %+v, want %+v", s, got, want)
		}
		r.Read(b)
		s = string(b)
		if May(s) != mayBe.MatchString(s) || User(s) != userIs.MatchString(s) || Read(s) != told(s) {
			t.Fatalf("of %q: May %v, User %v, Read %+v", s, May(s), User(s), Read(s))
		}
	}
}

func TestEveryCallTellsTheSameAgain(t *testing.T) { // P1, R1, R4
	for _, s := range someNames() {
		other := strings.Clone(s)
		if May(s) != May(other) || User(s) != User(other) || OfExport(s) != OfExport(other) || Read(s) != Read(other) {
			t.Errorf("what is told of %q is not the same again", s)
		}
	}
}
