package opcode

import (
	"encoding/binary"
	"fmt"
	"math"
	"math/rand"
	"regexp"
	"strings"
	"testing"
	"unicode/utf8"

	"stylus/api"
)

var markIs = regexp.MustCompile(`\A[a-z]{1,8}\z`)

// speltRight is the chapter's rule of which operations are right.
func speltRight(x api.Op) bool {
	place := x.At >= 0 && x.At <= 4096
	switch x.Kind {
	case 1:
		return place && x.N == 0 && len(x.S) <= 512 && utf8.ValidString(x.S)
	case 2:
		return place && x.N >= 0 && x.N <= 4096 && x.S == ""
	case 3:
		return place && x.N == 0 && markIs.MatchString(x.S)
	case 4:
		return x.At == 0 && x.N == 0 && markIs.MatchString(x.S)
	case 5, 6, 7, 8:
		return x.At == 0 && x.N == 0 && x.S == ""
	}
	return false
}

// speltBytes is the chapter's rule of the bytes of an operation that is right.
func speltBytes(x api.Op) string {
	b := []byte{byte(x.Kind)}
	if x.Kind == 1 || x.Kind == 2 || x.Kind == 3 {
		b = binary.LittleEndian.AppendUint32(b, uint32(x.At))
	}
	if x.Kind == 2 {
		b = binary.LittleEndian.AppendUint32(b, uint32(x.N))
	}
	return string(b) + x.S
}

// speltRead is the chapter's rule of what bytes are.
func speltRead(s string) (api.Op, api.Errno) {
	if s == "" {
		return api.Op{}, api.ErrShort
	}
	x, behind := api.Op{Kind: int(s[0])}, []byte(s[1:])
	most := map[int]int{1: 4, 2: 8, 3: 4}[x.Kind]
	if len(behind) < most {
		return api.Op{}, api.ErrShort
	}
	if most >= 4 {
		x.At = int(binary.LittleEndian.Uint32(behind))
	}
	if most >= 8 {
		x.N = int(binary.LittleEndian.Uint32(behind[4:]))
	}
	// What is left of a kind without S makes it one that is not right.
	x.S = string(behind[most:])
	if !speltRight(x) {
		return api.Op{}, api.ErrForm
	}
	return x, api.OK
}

// speltText is the chapter's rule of the words of an operation.
func speltText(x api.Op) string {
	if !speltRight(x) {
		return ""
	}
	switch x.Kind {
	case 1:
		return fmt.Sprintf("insert %d %s", x.At, x.S)
	case 2:
		return fmt.Sprintf("delete %d %d", x.At, x.N)
	case 3:
		return fmt.Sprintf("mark %s %d", x.S, x.At)
	case 4:
		return "unmark " + x.S
	}
	return map[int]string{5: "undo", 6: "redo", 7: "begin", 8: "end"}[x.Kind]
}

// someKinds are kinds that there are, those beside them, and some that are theirs modulo a byte.
func someKinds() []int {
	l := []int{math.MinInt, -1 << 32, -256, -255, -8, -2, -1, 255, 256, 257, 264, 1<<32 + 1, math.MaxInt}
	for kind := range 20 {
		l = append(l, kind)
	}
	return l
}

// someNumbers are places and lengths at the ends of what may be, and some that may be modulo 2^32.
func someNumbers() []int {
	return []int{math.MinInt, -1 << 32, -4096, -1, 0, 1, 9, 10, 127, 128, 255, 256, 511, 512, 513, 4095, 4096, 4097, 65536, 1<<31 - 1, 1 << 31, 1<<32 - 1, 1 << 32, 1<<32 + 1, math.MaxInt}
}

// someTexts are texts that may be inserted, names, and what is neither.
func someTexts() []string {
	return []string{
		"", "a", "z", "m", "abcdefgh", "zzzzzzzz", "abcdefghi", "A", "`", "{", "a1", "1", "a b", " ", "a ", "a\n", "\na", "a-b", "a\x00", "\x00", "\xff", "a\xff", "\x80",
		"\u00e9", "\u20ac", "a\u20ac", "\U0001f600", "\ufffd", "\xe2\x82", "\xc0\x80", "\xed\xa0\x80", "\xf4\x90\x80\x80",
		strings.Repeat("a", 9), strings.Repeat("a", 511), strings.Repeat("a", 512), strings.Repeat("a", 513), strings.Repeat("a", 4096),
		strings.Repeat("\u20ac", 170) + "\u00e9", strings.Repeat("\u20ac", 170) + "abc", strings.Repeat("\u20ac", 171), strings.Repeat("\u00e9", 256), strings.Repeat("\u00e9", 256) + "a",
		strings.Repeat("a", 511) + "\xff", strings.Repeat("a", 512) + "\xff", strings.Repeat("\n", 512), strings.Repeat("\x00", 512),
	}
}

// eachOp calls a function of each operation that those kinds, numbers and texts make.
func eachOp(f func(x api.Op)) {
	for _, kind := range someKinds() {
		for _, at := range someNumbers() {
			for _, n := range someNumbers() {
				for _, s := range someTexts() {
					f(api.Op{Kind: kind, At: at, N: n, S: s})
				}
			}
		}
	}
}

// someRight are operations of each kind that are right.
func someRight() []api.Op {
	var l []api.Op
	eachOp(func(x api.Op) {
		if speltRight(x) {
			l = append(l, x)
		}
	})
	return l
}

// spoken is an operation as a test tells it.
func spoken(x api.Op) string { return fmt.Sprintf("(%d, %d, %d, %.40q)", x.Kind, x.At, x.N, x.S) }

// wantRead holds what Read answers against this operation, or this error and none beside it.
func wantRead(t *testing.T, s string, want api.Op, wrong api.Errno) {
	t.Helper()
	if got, e := Read(s); got != want || e != wrong {
		t.Fatalf("Read(% x): %s, %s, want %s, %s", s, spoken(got), api.Text(e), spoken(want), api.Text(wrong))
	}
}

// wantBytes holds what Bytes answers against these bytes, or this error and none beside it.
func wantBytes(t *testing.T, x api.Op, want string, wrong api.Errno) {
	t.Helper()
	if got, e := Bytes(x); got != want || e != wrong {
		t.Fatalf("Bytes of %s: % x, %s, want % x, %s", spoken(x), got, api.Text(e), want, api.Text(wrong))
	}
}

func TestMayMark(t *testing.T) { // P14.1
	for _, x := range []struct {
		s    string
		want bool
	}{
		{"a", true}, {"z", true}, {"abcdefgh", true}, {"aaaaaaaa", true}, {"zzzzzzzz", true},
		{"", false}, {"abcdefghi", false}, {"A", false}, {"aB", false}, {"a1", false}, {"0", false}, {"`", false}, {"{", false}, {"a b", false}, {"a\n", false}, {"a-b", false}, {"a\x00", false},
		{"\u00e9", false}, {"a\u20ac", false}, {"\xff", false}, {"\xe1", false}, {strings.Repeat("a", 4096), false},
	} {
		if got := MayMark(x.s); got != x.want {
			t.Errorf("MayMark(%.20q): %v", x.s, got)
		}
	}
}

func TestMayMarkOfEachByteAtEachPlace(t *testing.T) { // P14.1
	for long := range 12 {
		s := strings.Repeat("m", long)
		if got := MayMark(s); got != (long >= 1 && long <= 8) {
			t.Errorf("MayMark(%q): %v", s, got)
		}
		for at := range long {
			for b := range 256 {
				one := s[:at] + string([]byte{byte(b)}) + s[at+1:]
				if got, want := MayMark(one), long <= 8 && b >= 'a' && b <= 'z'; got != want {
					t.Errorf("MayMark(%q): %v", one, got)
				}
			}
		}
	}
}

func TestRightOfSomeOperations(t *testing.T) { // P14.1
	most := strings.Repeat("a", 512)
	for _, x := range []struct {
		op   api.Op
		want bool
	}{
		{api.Op{Kind: api.OpInsert}, true},
		{api.Op{Kind: api.OpInsert, At: 4096, S: most}, true},
		{api.Op{Kind: api.OpInsert, S: "\x00\n\u20ac"}, true},
		{api.Op{Kind: api.OpInsert, At: 4097}, false},
		{api.Op{Kind: api.OpInsert, At: -1}, false},
		{api.Op{Kind: api.OpInsert, S: most + "a"}, false},
		{api.Op{Kind: api.OpInsert, S: "\xff"}, false},
		{api.Op{Kind: api.OpInsert, S: "a", N: 1}, false},
		{api.Op{Kind: api.OpDelete}, true},
		{api.Op{Kind: api.OpDelete, At: 4096, N: 4096}, true},
		{api.Op{Kind: api.OpDelete, At: 4097, N: 1}, false},
		{api.Op{Kind: api.OpDelete, N: 4097}, false},
		{api.Op{Kind: api.OpDelete, N: -1}, false},
		{api.Op{Kind: api.OpDelete, At: -1, N: 1}, false},
		{api.Op{Kind: api.OpDelete, N: 1, S: "a"}, false},
		{api.Op{Kind: api.OpMark, S: "m"}, true},
		{api.Op{Kind: api.OpMark, At: 4096, S: "abcdefgh"}, true},
		{api.Op{Kind: api.OpMark, At: 4097, S: "m"}, false},
		{api.Op{Kind: api.OpMark, At: -1, S: "m"}, false},
		{api.Op{Kind: api.OpMark}, false},
		{api.Op{Kind: api.OpMark, S: "abcdefghi"}, false},
		{api.Op{Kind: api.OpMark, S: "m1"}, false},
		{api.Op{Kind: api.OpMark, S: "m", N: 1}, false},
		{api.Op{Kind: api.OpUnmark, S: "m"}, true},
		{api.Op{Kind: api.OpUnmark}, false},
		{api.Op{Kind: api.OpUnmark, S: "M"}, false},
		{api.Op{Kind: api.OpUnmark, S: "m", At: 1}, false},
		{api.Op{Kind: api.OpUnmark, S: "m", N: 1}, false},
		{api.Op{Kind: api.OpUndo}, true},
		{api.Op{Kind: api.OpRedo}, true},
		{api.Op{Kind: api.OpBegin}, true},
		{api.Op{Kind: api.OpEnd}, true},
		{api.Op{Kind: api.OpUndo, At: 1}, false},
		{api.Op{Kind: api.OpRedo, N: 1}, false},
		{api.Op{Kind: api.OpBegin, S: "a"}, false},
		{api.Op{Kind: api.OpEnd, N: -1}, false},
		{api.Op{}, false},
		{api.Op{Kind: 9}, false},
		{api.Op{Kind: -1}, false},
		{api.Op{Kind: 257, S: "a"}, false},
	} {
		if got := Right(x.op); got != x.want {
			t.Errorf("Right of %s: %v", spoken(x.op), got)
		}
	}
}

func TestRightIsAsTheChapterSpellsIt(t *testing.T) { // P14.1
	kinds := map[int]int{}
	eachOp(func(x api.Op) {
		if got, want := Right(x), speltRight(x); got != want {
			t.Fatalf("Right of %s: %v", spoken(x), got)
		}
		if speltRight(x) {
			kinds[x.Kind]++
		}
	})
	if len(kinds) != 8 {
		t.Fatalf("not all kinds are among those that are right: %v", kinds)
	}
}

func TestBytesThatAreKnown(t *testing.T) { // P14.2
	wantBytes(t, api.Op{Kind: api.OpInsert, At: 258, S: "a\u20ac"}, "\x01\x02\x01\x00\x00a\xe2\x82\xac", api.OK)
	wantBytes(t, api.Op{Kind: api.OpInsert}, "\x01\x00\x00\x00\x00", api.OK)
	wantBytes(t, api.Op{Kind: api.OpDelete, At: 1, N: 4096}, "\x02\x01\x00\x00\x00\x00\x10\x00\x00", api.OK)
	wantBytes(t, api.Op{Kind: api.OpMark, At: 4095, S: "m"}, "\x03\xff\x0f\x00\x00m", api.OK)
	wantBytes(t, api.Op{Kind: api.OpUnmark, S: "abcdefgh"}, "\x04abcdefgh", api.OK)
	wantBytes(t, api.Op{Kind: api.OpUndo}, "\x05", api.OK)
	wantBytes(t, api.Op{Kind: api.OpRedo}, "\x06", api.OK)
	wantBytes(t, api.Op{Kind: api.OpBegin}, "\x07", api.OK)
	wantBytes(t, api.Op{Kind: api.OpEnd}, "\x08", api.OK)
}

func TestBytesAreAsTheChapterSpellsThem(t *testing.T) { // P14.2
	eachOp(func(x api.Op) {
		if speltRight(x) {
			wantBytes(t, x, speltBytes(x), api.OK)
		} else {
			wantBytes(t, x, "", api.ErrArg)
		}
	})
}

func TestReadOfBytesThatAreKnown(t *testing.T) { // P14.2
	wantRead(t, "\x01\x02\x01\x00\x00a\xe2\x82\xac", api.Op{Kind: api.OpInsert, At: 258, S: "a\u20ac"}, api.OK)
	wantRead(t, "\x01\x00\x10\x00\x00", api.Op{Kind: api.OpInsert, At: 4096}, api.OK)
	wantRead(t, "\x02\x01\x00\x00\x00\x00\x10\x00\x00", api.Op{Kind: api.OpDelete, At: 1, N: 4096}, api.OK)
	wantRead(t, "\x03\xff\x0f\x00\x00m", api.Op{Kind: api.OpMark, At: 4095, S: "m"}, api.OK)
	wantRead(t, "\x04abcdefgh", api.Op{Kind: api.OpUnmark, S: "abcdefgh"}, api.OK)
	wantRead(t, "\x05", api.Op{Kind: api.OpUndo}, api.OK)
	wantRead(t, "\x06", api.Op{Kind: api.OpRedo}, api.OK)
	wantRead(t, "\x07", api.Op{Kind: api.OpBegin}, api.OK)
	wantRead(t, "\x08", api.Op{Kind: api.OpEnd}, api.OK)
}

func TestReadWhereBytesLack(t *testing.T) { // P14.2
	// What stands there already is looked at only where no bytes lack.
	for _, s := range []string{"", "\x01", "\x01\x00", "\x01\x00\x00\x00", "\x01\xff\xff\xff", "\x02", "\x02\x00\x00\x00", "\x02\x00\x00\x00\x00", "\x02\x00\x00\x00\x00\x00\x00\x00", "\x02\xff\xff\xff\xff", "\x02\xff\xff\xff\xff\x01\x01\x01", "\x03", "\x03abc", "\x03\x00\x00\x00"} {
		wantRead(t, s, api.Op{}, api.ErrShort)
	}
}

func TestReadOfWhatIsNotRight(t *testing.T) { // P14.2
	for _, s := range []string{
		"\x00", "\x09", "\xff", "\x00\x00\x00\x00\x00\x00\x00\x00\x00\x00", "\x09m", "insert",
		"\x01\x01\x10\x00\x00a", "\x01\x00\x00\x01\x00a", "\x01\xff\xff\xff\xffa", "\x01\x00\x00\x00\x80a", "\x01\x00\x00\x00\x00\xff", "\x01\x00\x00\x00\x00\xe2\x82", "\x01\x00\x00\x00\x00" + strings.Repeat("a", 513),
		"\x02\x01\x10\x00\x00\x00\x00\x00\x00", "\x02\x00\x00\x00\x00\x01\x10\x00\x00", "\x02\x00\x00\x00\x00\xff\xff\xff\xff", "\x02\x00\x00\x00\x00\x00\x00\x00\x00a", "\x02\x00\x00\x00\x00\x00\x00\x00\x00\x00",
		"\x03\x00\x00\x00\x00", "\x03\x00\x00\x00\x00M", "\x03\x00\x00\x00\x00abcdefghi", "\x03\x01\x10\x00\x00m", "\x03\x00\x00\x00\x00m\x00",
		"\x04", "\x04M", "\x04abcdefghi", "\x04m\n", "\x04\x00\x00\x00\x00m",
		"\x05\x00", "\x06a", "\x07\x07", "\x08\x00\x00\x00\x00",
	} {
		wantRead(t, s, api.Op{}, api.ErrForm)
	}
}

func TestReadOfBytesThatAreNearlyRight(t *testing.T) { // P14.2
	for _, x := range someRight() {
		s := speltBytes(x)
		if len(s) > 40 && x.At > 1 {
			continue
		}
		for n := range len(s) {
			want, e := speltRead(s[:n])
			wantRead(t, s[:n], want, e)
		}
		for _, more := range []string{"a", "A", "\x00", "\xff", "\x80", "abcdefgh", s} {
			want, e := speltRead(s + more)
			wantRead(t, s+more, want, e)
		}
		for at := range min(len(s), 20) {
			for _, b := range []byte{0, 1, 2, 3, 4, 5, 6, 7, 8, 9, 16, 17, 'a', 'A', 127, 128, 255} {
				near := s[:at] + string([]byte{b}) + s[at+1:]
				want, e := speltRead(near)
				wantRead(t, near, want, e)
			}
		}
	}
}

func TestReadOfAllShortTexts(t *testing.T) { // P14.2
	for a := range 256 {
		for b := range 256 {
			s := string([]byte{byte(a), byte(b)})
			want, e := speltRead(s)
			wantRead(t, s, want, e)
		}
		s := string([]byte{byte(a)})
		want, e := speltRead(s)
		wantRead(t, s, want, e)
	}
}

func TestTextOfSomeOperations(t *testing.T) { // P14.3
	for _, x := range []struct {
		op   api.Op
		want string
	}{
		{api.Op{Kind: api.OpInsert, At: 4096, S: "a b\n\u20ac"}, "insert 4096 a b\n\u20ac"},
		{api.Op{Kind: api.OpInsert, S: "a"}, "insert 0 a"},
		{api.Op{Kind: api.OpInsert, At: 10}, "insert 10 "},
		{api.Op{Kind: api.OpDelete, At: 1, N: 20}, "delete 1 20"},
		{api.Op{Kind: api.OpDelete}, "delete 0 0"},
		{api.Op{Kind: api.OpMark, At: 7, S: "m"}, "mark m 7"},
		{api.Op{Kind: api.OpUnmark, S: "abcdefgh"}, "unmark abcdefgh"},
		{api.Op{Kind: api.OpUndo}, "undo"},
		{api.Op{Kind: api.OpRedo}, "redo"},
		{api.Op{Kind: api.OpBegin}, "begin"},
		{api.Op{Kind: api.OpEnd}, "end"},
		{api.Op{Kind: api.OpEnd, N: 1}, ""},
		{api.Op{Kind: api.OpInsert, S: "\xff"}, ""},
		{api.Op{Kind: api.OpDelete, At: -1}, ""},
		{api.Op{Kind: api.OpMark, S: "M"}, ""},
		{api.Op{Kind: api.OpUnmark}, ""},
		{api.Op{}, ""},
		{api.Op{Kind: 9}, ""},
		{api.Op{Kind: -1}, ""},
	} {
		if got := Text(x.op); got != x.want {
			t.Errorf("Text of %s: %q, want %q", spoken(x.op), got, x.want)
		}
	}
}

func TestTextIsAsTheChapterSpellsIt(t *testing.T) { // P14.3
	eachOp(func(x api.Op) {
		if got, want := Text(x), speltText(x); got != want {
			t.Fatalf("Text of %s: %.60q, want %.60q", spoken(x), got, want)
		}
	})
}

func TestWhatIsLaidIsRead(t *testing.T) { // P14.4
	for _, x := range someRight() {
		s, e := Bytes(x)
		if e != api.OK {
			t.Fatalf("Bytes of %s: %s", spoken(x), api.Text(e))
		}
		wantRead(t, s, x, api.OK)
	}
	for at := range 4097 {
		for _, x := range []api.Op{{Kind: api.OpInsert, At: at, S: "a"}, {Kind: api.OpDelete, At: at, N: 4096 - at}, {Kind: api.OpMark, At: at, S: "m"}} {
			s, _ := Bytes(x)
			wantRead(t, s, x, api.OK)
		}
	}
}

func TestWhatIsReadIsLaidAsTheSameBytes(t *testing.T) { // P14.2, P14.4
	r := rand.New(rand.NewSource(14))
	read := map[int]int{}
	pieces := []string{"\x00\x00\x00\x00", "\x01\x00\x00\x00", "\xff\x0f\x00\x00", "\x00\x10\x00\x00", "\x01\x10\x00\x00", "\x00", "a", "bm", "z", "\xe2\x82\xac", "\xff"}
	for range 100000 {
		s := string([]byte{byte(r.Intn(10))})
		for range r.Intn(5) {
			s += pieces[r.Intn(len(pieces))]
		}
		want, wrong := speltRead(s)
		wantRead(t, s, want, wrong)
		if wrong == api.OK {
			read[want.Kind]++
			wantBytes(t, want, s, api.OK)
		}
	}
	for kind := 1; kind <= 8; kind++ {
		if read[kind] < 100 {
			t.Errorf("of kind %d only %d were read", kind, read[kind])
		}
	}
}

func TestDrawnTextsAndOperations(t *testing.T) { // P1, R1
	r := rand.New(rand.NewSource(141))
	for range 50000 {
		b := make([]byte, r.Intn(600))
		r.Read(b)
		s := string(b)
		want, wrong := speltRead(s)
		wantRead(t, s, want, wrong)
		x := api.Op{Kind: r.Intn(12) - 1, At: int(r.Uint64()) >> r.Intn(64), N: int(r.Uint64()) >> r.Intn(64), S: s}
		if Right(x) != speltRight(x) || Text(x) != speltText(x) || MayMark(s) != markIs.MatchString(s) {
			t.Fatalf("of %s: Right %v, Text %.60q, MayMark %v", spoken(x), Right(x), Text(x), MayMark(s))
		}
	}
}

func TestEveryCallTellsTheSameAgain(t *testing.T) { // P1, R3, R4
	for _, x := range someRight() {
		other := x
		other.S = strings.Clone(x.S)
		s, e := Bytes(x)
		again, f := Bytes(other)
		if s != again || e != f || Text(x) != Text(other) || Right(x) != Right(other) || x != other {
			t.Fatalf("what is told of %s is not the same again", spoken(x))
		}
		one, _ := Read(s)
		two, _ := Read(strings.Clone(s))
		if one != two {
			t.Fatalf("what Read tells of % x is not the same again", s)
		}
	}
}
