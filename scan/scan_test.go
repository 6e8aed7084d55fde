package scan

import (
	"encoding/binary"
	"fmt"
	"hash/crc32"
	"math"
	"math/rand"
	"slices"
	"strings"
	"testing"

	"stylus/api"
	"stylus/frame"
)

// laid is the bytes of a frame.
func laid(t *testing.T, epoch, seq int, data string) string {
	t.Helper()
	s, e := frame.Lay(api.Frame{Epoch: epoch, Seq: seq, Data: data})
	if e != api.OK {
		t.Fatalf("Lay of %d, %d, %d bytes: %s", epoch, seq, len(data), api.Text(e))
	}
	return s
}

// full is n bytes 255.
func full(n int) string { return strings.Repeat("\xff", n) }

// zeros is n bytes 0.
func zeros(n int) string { return strings.Repeat("\x00", n) }

// toSector is how many bytes lack behind n up to a multiple of 32.
func toSector(n int) int {
	lack := 0
	for (n+lack)%32 != 0 {
		lack++
	}
	return lack
}

// drawn is a text of n bytes of all kinds.
func drawn(r *rand.Rand, n int) string {
	b := make([]byte, n)
	r.Read(b)
	return string(b)
}

// turned is s with that bit turned.
func turned(s string, bit int) string {
	b := []byte(s)
	b[bit/8] ^= 1 << (bit % 8)
	return string(b)
}

// spoken is frames as a test tells them.
func spoken(l []api.Frame) string {
	s := ""
	for _, f := range l {
		s += fmt.Sprintf("(%d, %d, % x)", f.Epoch, f.Seq, f.Data)
	}
	return s
}

// data is frames of an epoch, numbered from seq on, with these data.
func data(epoch, seq int, l ...string) []api.Frame {
	var frames []api.Frame
	for i, s := range l {
		frames = append(frames, api.Frame{Epoch: epoch, Seq: seq + i, Data: s})
	}
	return frames
}

// wantRun holds what Run answers against these frames and this end, and Why against what stands there.
func wantRun(t *testing.T, s string, epoch, seq int, want []api.Frame, end int, why api.Errno) {
	t.Helper()
	if got, at := Run(s, epoch, seq); !slices.Equal(got, want) || at != end {
		t.Fatalf("Run(% x, %d, %d): %s, %d, want %s, %d", s, epoch, seq, spoken(got), at, spoken(want), end)
	}
	if e := Why(s, epoch, seq); e != why {
		t.Fatalf("Why(% x, %d, %d): %s, want %s", s, epoch, seq, api.Text(e), api.Text(why))
	}
}

// wantAny holds what Any answers against these frames.
func wantAny(t *testing.T, s string, want []api.Frame) {
	t.Helper()
	if got := Any(s); !slices.Equal(got, want) {
		t.Fatalf("Any(% x): %s, want %s", s, spoken(got), spoken(want))
	}
}

// ends are the ints at their ends, and some that are numbers that may be, modulo 2^32.
func ends() []int {
	return []int{math.MinInt, math.MinInt + 1, -1 << 32, -1<<32 + 1, -1<<32 + 2, -1, 1 << 31, 1<<32 - 1, 1 << 32, 1<<32 + 1, 1<<32 + 2, math.MaxInt - 1, math.MaxInt}
}

func TestRunOfBytesThatAreKnown(t *testing.T) { // P13.1
	one := "SJ\x01\x00\x01\x00\x00\x00\x02\x00\x00\x00\xc1\x78\x07\xfda"
	wantRun(t, one, 1, 2, data(1, 2, "a"), 17, api.OK)
	wantRun(t, one+"\xff\xff\xff\xff\xff\xff\xff\xff\xff\xff\xff\xff\xff\xff\xff", 1, 2, data(1, 2, "a"), 32, api.OK)
	wantRun(t, "SJ\x00\x00\x00\x00\x00\x00\x00\x00\x00\x00\x76\x68\x8a\xe3", 0, 0, data(0, 0, ""), 16, api.OK)
}

func TestRunOfNothing(t *testing.T) { // P13.1, P13.2
	for _, epoch := range append(ends(), 0, 1, 999999) {
		for _, seq := range append(ends(), 0, 1, 1<<31-1) {
			wantRun(t, "", epoch, seq, nil, 0, api.OK)
		}
	}
}

func TestRunOfFramesOneBehindTheOther(t *testing.T) { // P13.1
	var l []string
	s := ""
	for i := range 200 {
		l = append(l, strings.Repeat("d", i*7%300))
		s += laid(t, 5, 40+i, l[i])
		wantRun(t, s, 5, 40, data(5, 40, l...), len(s), api.OK)
	}
}

func TestRunOfDataAtItsEnds(t *testing.T) { // P13.1
	for _, d := range []string{"", full(1), full(16), full(32), zeros(1024), full(1024), laid(t, 1, 8, "within")} {
		s := laid(t, 1, 7, d) + laid(t, 1, 8, d)
		wantRun(t, s, 1, 7, data(1, 7, d, d), len(s), api.OK)
	}
}

func TestRunOfWhatIsFilledUp(t *testing.T) { // P13.1
	for n := range 70 {
		d := strings.Repeat("d", n)
		s := laid(t, 1, 7, d)
		next := len(s) + toSector(len(s))
		up := s + full(toSector(len(s)))
		wantRun(t, up, 1, 7, data(1, 7, d), next, api.OK)
		behind := laid(t, 1, 8, "b")
		wantRun(t, up+behind, 1, 7, data(1, 7, d, "b"), next+17, api.OK)
		wantRun(t, up+behind+full(toSector(17))+laid(t, 1, 9, "c"), 1, 7, data(1, 7, d, "b", "c"), next+32+17, api.OK)
		wantRun(t, s+behind, 1, 7, data(1, 7, d, "b"), len(s)+17, api.OK)
	}
}

func TestRunOfTooFewBytesThatFillUp(t *testing.T) { // P13.1, P13.2
	for n := range 70 {
		d := strings.Repeat("d", n)
		s := laid(t, 1, 7, d)
		for k := 1; k < toSector(len(s)); k++ {
			wantRun(t, s+full(k), 1, 7, data(1, 7, d), len(s), api.ErrForm)
			// A frame that stands ahead of the multiple is not found behind them.
			wantRun(t, s+full(k)+laid(t, 1, 8, "b"), 1, 7, data(1, 7, d), len(s), api.ErrForm)
		}
	}
}

func TestRunOfTooManyBytesThatFillUp(t *testing.T) { // P13.1, P13.2
	for n := range 70 {
		d := strings.Repeat("d", n)
		s := laid(t, 1, 7, d)
		next := len(s) + toSector(len(s))
		// At a multiple nothing more is filled up, be it a whole sector.
		for _, k := range []int{1, 31, 32, 33, 64} {
			over := s + full(toSector(len(s))+k)
			wantRun(t, over, 1, 7, data(1, 7, d), next, api.ErrForm)
			wantRun(t, over+laid(t, 1, 8, "b"), 1, 7, data(1, 7, d), next, api.ErrForm)
		}
	}
}

func TestRunOfBytesThatDoNotFillUp(t *testing.T) { // P13.1, P13.2
	s := laid(t, 1, 7, "d")
	for at := range 15 {
		for _, b := range []byte{0, 1, 32, 127, 128, 254} {
			fill := []byte(full(15))
			fill[at] = b
			wantRun(t, s+string(fill)+laid(t, 1, 8, "b"), 1, 7, data(1, 7, "d"), 17, api.ErrForm)
		}
	}
	wantRun(t, s+zeros(15)+laid(t, 1, 8, "b"), 1, 7, data(1, 7, "d"), 17, api.ErrForm)
	// A byte of what would fill up, ahead of a frame that stands there already.
	wantRun(t, s+full(14)+laid(t, 1, 8, "b")+full(1), 1, 7, data(1, 7, "d"), 17, api.ErrForm)
	// Nor do runes that are not valid, or are written otherwise.
	wantRun(t, s+strings.Repeat("\ufffd", 5)+laid(t, 1, 8, "b"), 1, 7, data(1, 7, "d"), 17, api.ErrForm)
	wantRun(t, s+strings.Repeat("\xfe", 15)+laid(t, 1, 8, "b"), 1, 7, data(1, 7, "d"), 17, api.ErrForm)
}

func TestRunOfWhatBeginsWithNoFrame(t *testing.T) { // P13.1, P13.2
	f := laid(t, 1, 7, "d")
	for _, k := range []int{1, 15, 16, 31, 32, 33, 64} {
		wantRun(t, full(k), 1, 7, nil, 0, api.ErrForm)
		wantRun(t, full(k)+f, 1, 7, nil, 0, api.ErrForm)
		wantRun(t, zeros(k), 1, 7, nil, 0, api.ErrForm)
		wantRun(t, zeros(k)+f, 1, 7, nil, 0, api.ErrForm)
		wantRun(t, strings.Repeat("x", k)+f, 1, 7, nil, 0, api.ErrForm)
	}
}

func TestRunOfAnotherEpoch(t *testing.T) { // P13.1, P13.2
	s := laid(t, 1, 7, "a")
	for _, epoch := range append(ends(), 0, 2, 999999, 1000000) {
		wantRun(t, s, epoch, 7, nil, 0, api.ErrRange)
	}
	for _, epoch := range []int{0, 2, 257, 65537, 999999} {
		other := laid(t, epoch, 8, "b") + laid(t, 1, 8, "b")
		wantRun(t, s+other, 1, 7, data(1, 7, "a"), 17, api.ErrRange)
		wantRun(t, s+full(15)+other, 1, 7, data(1, 7, "a"), 32, api.ErrRange)
	}
}

func TestRunOfAnotherNumber(t *testing.T) { // P13.1, P13.2
	s := laid(t, 1, 7, "a")
	for _, seq := range append(ends(), 0, 6, 8, 1<<31-1) {
		wantRun(t, s, 1, seq, nil, 0, api.ErrRange)
	}
	for _, seq := range []int{0, 6, 7, 9, 10, 8 + 1<<8, 8 + 1<<16, 1<<31 - 1} {
		other := laid(t, 1, seq, "b") + laid(t, 1, 8, "b")
		wantRun(t, s+other, 1, 7, data(1, 7, "a"), 17, api.ErrRange)
		wantRun(t, s+full(15)+other, 1, 7, data(1, 7, "a"), 32, api.ErrRange)
	}
}

func TestRunOfNumbersAtTheirEnds(t *testing.T) { // P13.1, P13.2
	last := 1<<31 - 1
	s := laid(t, 999999, last-1, "a") + laid(t, 999999, last, "b")
	wantRun(t, s, 999999, last-1, data(999999, last-1, "a", "b"), 34, api.OK)
	// Behind the greatest number none comes.
	for _, seq := range []int{0, 1, last - 1, last} {
		wantRun(t, s+laid(t, 999999, seq, "c"), 999999, last-1, data(999999, last-1, "a", "b"), 34, api.ErrRange)
	}
	for _, seq := range ends() {
		for _, epoch := range append(ends(), 0, 1, 999999) {
			wantRun(t, s, epoch, seq, nil, 0, api.ErrRange)
			wantRun(t, laid(t, 0, 0, ""), epoch, seq, nil, 0, api.ErrRange)
		}
	}
}

// beyond is the bytes of a frame whose numbers may not be, with its sum: none is laid of them.
func beyond(epoch, seq uint32) string {
	s := []byte{0, 0}
	s = binary.LittleEndian.AppendUint32(s, epoch)
	s = binary.LittleEndian.AppendUint32(s, seq)
	return "SJ" + string(binary.LittleEndian.AppendUint32(s, crc32.ChecksumIEEE(s)))
}

func TestWhyTellsTheErrorOfOne(t *testing.T) { // P13.2
	a, b := laid(t, 1, 7, "a"), laid(t, 1, 8, "b")
	long := b[:2] + "\x01\x04" + b[4:]
	for _, x := range []struct {
		ahead  string
		frames []api.Frame
	}{
		{"", nil},
		{a, data(1, 7, "a")},
		{a + full(15), data(1, 7, "a")},
		{a + b, data(1, 7, "a", "b")},
	} {
		for _, y := range []struct {
			stands string
			why    api.Errno
		}{
			{"", api.OK},
			{"x", api.ErrForm}, {"Sj", api.ErrForm}, {"\x00" + b, api.ErrForm},
			{"S", api.ErrShort}, {"SJ", api.ErrShort}, {b[:15], api.ErrShort}, {b[:16], api.ErrShort},
			{long, api.ErrLong}, {long + zeros(2000), api.ErrLong},
			{b[:16] + "c", api.ErrSum}, {turned(b, 40), api.ErrSum},
			{beyond(1000000, 8), api.ErrRange}, {beyond(1, 1<<31), api.ErrRange},
			{laid(t, 2, 9, ""), api.ErrRange},
		} {
			wantRun(t, x.ahead+y.stands, 1, 7, x.frames, len(x.ahead), y.why)
		}
	}
	// Numbers that may not be are none, also where they are asked for.
	wantRun(t, beyond(1000000, 8), 1000000, 8, nil, 0, api.ErrRange)
	wantRun(t, beyond(1, 1<<31), 1, 1<<31, nil, 0, api.ErrRange)
	wantAny(t, beyond(1000000, 8)+a, data(1, 7, "a"))
}

func TestAnyFindsFramesOfAllNumbers(t *testing.T) { // P13.2
	wantAny(t, "", nil)
	l := []api.Frame{{Epoch: 3, Seq: 9, Data: "a"}, {Epoch: 0, Seq: 0}, {Epoch: 999999, Seq: 1<<31 - 1, Data: full(1024)}, {Epoch: 3, Seq: 9, Data: "a"}, {Epoch: 1, Seq: 2, Data: "SJ"}}
	s := ""
	for _, f := range l {
		s += laid(t, f.Epoch, f.Seq, f.Data)
	}
	wantAny(t, s, l)
	// Also behind and between other bytes, at any place.
	for n := range 70 {
		for _, other := range []string{full(n), zeros(n), strings.Repeat("S", n), strings.Repeat("SJ", n)} {
			s = other
			for _, f := range l {
				s += laid(t, f.Epoch, f.Seq, f.Data) + other
			}
			wantAny(t, s, l)
			wantAny(t, other, nil)
		}
	}
}

func TestAnyGoesOnBehindAFrame(t *testing.T) { // P13.2
	in := laid(t, 1, 8, "within")
	out := laid(t, 1, 7, "x"+in)
	wantAny(t, out+in, []api.Frame{{Epoch: 1, Seq: 7, Data: "x" + in}, {Epoch: 1, Seq: 8, Data: "within"}})
	// In one that is none any more, the one within is found.
	for bit := range 17 * 8 {
		wantAny(t, turned(out, bit), data(1, 8, "within"))
	}
	wantAny(t, out[:len(out)-1], nil)
	wantAny(t, out[1:], data(1, 8, "within"))
	wantAny(t, "SJ"+in, data(1, 8, "within"))
	wantAny(t, in[:len(in)-1]+in, data(1, 8, "within"))
	wantAny(t, in[:10]+in, data(1, 8, "within"))
}

func TestBlank(t *testing.T) { // P13.2
	for n := range 100 {
		if !Blank(full(n)) {
			t.Errorf("Blank of %d bytes 255: false", n)
		}
		for at := range n {
			for b := range 255 {
				s := full(at) + string([]byte{byte(b)}) + full(n-at-1)
				if Blank(s) {
					t.Fatalf("Blank(% x): true", s)
				}
			}
		}
	}
	for _, s := range []string{zeros(1), zeros(32), "\u00ff", "\ufffd", "\xfe", "\xff\xff\u00ff", "\xc3\xbf", laid(t, 0, 0, "")} {
		if Blank(s) {
			t.Errorf("Blank(% x): true", s)
		}
	}
}

func TestFill(t *testing.T) { // P13.2
	for n := range 33 {
		if got := Fill(n); got != full(n) {
			t.Errorf("Fill(%d): % x", n, got)
		}
		if got := Fill(-n); got != "" {
			t.Errorf("Fill(%d): % x", -n, got)
		}
	}
	for _, n := range []int{33, 34, 63, 64, 1024, 1 << 31, 1<<32 + 1, math.MaxInt - 1, math.MaxInt} {
		if got := Fill(n); got != full(32) {
			t.Errorf("Fill(%d): % x", n, got)
		}
	}
	for _, n := range []int{-33, -1 << 32, -1<<32 + 1, math.MinInt, math.MinInt + 1} {
		if got := Fill(n); got != "" {
			t.Errorf("Fill(%d): % x", n, got)
		}
	}
}

// journal is some frames' bytes: where each frame begins, and where it ends, without and with what fills it up.
type journal struct {
	s           string
	epoch, from int
	frames      []api.Frame
	begin, end  []int
	filledUpTo  []int
}

// someJournal is frames one behind the other, each filled up or not.
func someJournal(t *testing.T, r *rand.Rand) journal {
	t.Helper()
	j := journal{epoch: r.Intn(1000000), from: r.Intn(1 << 31)}
	for i := range r.Intn(8) {
		f := api.Frame{Epoch: j.epoch, Seq: j.from + i, Data: drawn(r, r.Intn(50))}
		if f.Seq > api.MaxSeq {
			break
		}
		j.frames = append(j.frames, f)
		j.begin = append(j.begin, len(j.s))
		j.s += laid(t, f.Epoch, f.Seq, f.Data)
		j.end = append(j.end, len(j.s))
		if r.Intn(2) == 0 {
			j.s += Fill(toSector(len(j.s)))
		}
		j.filledUpTo = append(j.filledUpTo, len(j.s))
	}
	return j
}

// upTo is how many frames are found where the bytes are as they were up to this place alone: those that end there, with what fills up all ahead of them.
func (j journal) upTo(at int) int {
	n := 0
	for n < len(j.frames) && j.end[n] <= at && (n == 0 || j.filledUpTo[n-1] <= at) {
		n++
	}
	return n
}

// wantFound holds Run of s to the first n frames of the journal.
func (j journal) wantFound(t *testing.T, s string, n int) {
	t.Helper()
	got, end := Run(s, j.epoch, j.from)
	if !slices.Equal(got, j.frames[:n]) {
		t.Fatalf("Run of % x: %s, want the first %d of %s", s, spoken(got), n, spoken(j.frames))
	}
	if n > 0 && (end < j.end[n-1] || end > j.filledUpTo[n-1]) || n == 0 && end != 0 {
		t.Fatalf("Run of % x: %d frames up to %d", s, n, end)
	}
}

func TestFramesAreFoundUpToTheFirstThatIsNotThere(t *testing.T) { // P13.3
	r := rand.New(rand.NewSource(13))
	for range 300 {
		j := someJournal(t, r)
		wantRun(t, j.s, j.epoch, j.from, j.frames, len(j.s), api.OK)
		for at := range len(j.s) {
			// Cut there, or changed there.
			j.wantFound(t, j.s[:at], j.upTo(at))
			j.wantFound(t, turned(j.s, at*8+r.Intn(8)), j.upTo(at))
		}
		for at := 0; at < len(j.s); at += 32 {
			// A sector is lost; where its first bytes were 0, they are as they were.
			end := min(at+32, len(j.s))
			same := 0
			for at+same < end && j.s[at+same] == 0 {
				same++
			}
			j.wantFound(t, j.s[:at]+zeros(end-at)+j.s[end:], j.upTo(at+same))
		}
		for i := range j.frames {
			// A frame is lost: zeroed, or away with its bytes.
			behind := j.s[j.end[i]:]
			j.wantFound(t, j.s[:j.begin[i]]+zeros(j.end[i]-j.begin[i])+behind, i)
			if i+1 < len(j.frames) {
				j.wantFound(t, j.s[:j.begin[i]]+j.s[j.begin[i+1]:], i)
			}
		}
	}
}

// plainRun is the chapter's rule of Run, spelt out.
func plainRun(s string, epoch, seq int) ([]api.Frame, int) {
	var l []api.Frame
	at := 0
	for {
		if f, n, e := frame.One(s[at:]); e == api.OK && f.Epoch == epoch && f.Seq == seq {
			l, at, seq = append(l, f), at+n, seq+1
			continue
		}
		lack := toSector(at)
		if lack == 0 || at+lack > len(s) || strings.Count(s[at:at+lack], "\xff") != lack {
			return l, at
		}
		at += lack
	}
}

// plainAny is the chapter's rule of Any, spelt out.
func plainAny(s string) []api.Frame {
	var l []api.Frame
	for s != "" {
		if f, n, e := frame.One(s); e == api.OK {
			l, s = append(l, f), s[n:]
			continue
		}
		s = s[1:]
	}
	return l
}

// someBytes are frames of nearly the same numbers, filled up or not, with other bytes between some of them, turned or cut.
func someBytes(t *testing.T, r *rand.Rand) string {
	t.Helper()
	s, seq := "", 0
	for range r.Intn(9) {
		epoch := 1
		if r.Intn(12) == 0 {
			epoch = r.Intn(3)
		}
		if r.Intn(12) == 0 {
			seq += r.Intn(3) - 1
		}
		s += laid(t, epoch, max(0, seq), drawn(r, r.Intn(40)))
		seq++
		switch r.Intn(8) {
		case 0, 1, 2:
			s += full(toSector(len(s)))
		case 3:
			s += full(r.Intn(70))
		case 4:
			s += []string{"S", "SJ", "\x00", "\xff", zeros(toSector(len(s)))}[r.Intn(5)]
		}
	}
	switch {
	case s == "" || r.Intn(2) == 0:
		return s
	case r.Intn(2) == 0:
		return turned(s, r.Intn(len(s)*8))
	}
	return s[:r.Intn(len(s))]
}

func TestAllCallsAreAsTheChapterSpellsThem(t *testing.T) { // P13.1, P13.2
	r := rand.New(rand.NewSource(14))
	told := map[api.Errno]int{}
	found := 0
	for range 30000 {
		s := someBytes(t, r)
		want, end := plainRun(s, 1, 0)
		why := api.OK
		if end < len(s) {
			if _, _, why = frame.One(s[end:]); why == api.OK {
				why = api.ErrRange
			}
		}
		wantRun(t, s, 1, 0, want, end, why)
		wantAny(t, s, plainAny(s))
		told[why]++
		found += len(want)
	}
	for _, e := range []api.Errno{api.OK, api.ErrForm, api.ErrShort, api.ErrSum, api.ErrRange} {
		if told[e] < 50 {
			t.Errorf("%s was told %d times only", api.Text(e), told[e])
		}
	}
	if found < 30000 {
		t.Errorf("%d frames were found only", found)
	}
}

func TestCallsOfAnyBytesEnd(t *testing.T) { // P1
	r := rand.New(rand.NewSource(15))
	for n := range 600 {
		for _, s := range []string{drawn(r, n), full(n), zeros(n), strings.Repeat("S", n), strings.Repeat("SJ", n), strings.Repeat("SJ\x00\x04", n), "SJ" + drawn(r, n)} {
			for _, seq := range []int{math.MinInt, 0, math.MaxInt} {
				want, end := plainRun(s, 0, seq)
				if got, at := Run(s, 0, seq); !slices.Equal(got, want) || at != end {
					t.Fatalf("Run(% x): %s, %d", s, spoken(got), at)
				}
				if e := Why(s, 0, seq); (e == api.OK) != (end == len(s)) {
					t.Fatalf("Why(% x): %s", s, api.Text(e))
				}
			}
			wantAny(t, s, plainAny(s))
			if got := Blank(s); got != (strings.Count(s, "\xff") == len(s)) {
				t.Fatalf("Blank(% x): %v", s, got)
			}
		}
	}
}

func TestAnswersAreNewMemory(t *testing.T) { // R3
	s := laid(t, 1, 0, "a") + laid(t, 1, 1, "b") + laid(t, 1, 2, "c")
	calls := []func() []api.Frame{
		func() []api.Frame { l, _ := Run(s, 1, 0); return l },
		func() []api.Frame { return Any(s) },
	}
	for _, call := range calls {
		one, other := call(), call()
		for i := range one[:cap(one)] {
			one[:cap(one)][i] = api.Frame{Epoch: 9, Seq: 9, Data: "z"}
		}
		if want := data(1, 0, "a", "b", "c"); !slices.Equal(other, want) || !slices.Equal(call(), want) {
			t.Errorf("an answer changed with another one: %s", spoken(other))
		}
	}
}

func TestTheExample(t *testing.T) { // the chapter's examples
	if l, end := Run("", 0, 0); len(l) != 0 || end != 0 {
		t.Errorf("Run of nothing: %s, %d", spoken(l), end)
	}
}
