package frame

import (
	"fmt"
	"hash/crc32"
	"math"
	"math/rand"
	"strings"
	"testing"

	"stylus/api"
)

// head is what a frame's bytes say ahead of its data, but for both first bytes and the sum.
type head struct {
	long  uint16
	epoch uint32
	seq   uint32
}

// spelt is the chapter's rule of a frame's bytes, of any numbers.
func spelt(h head, data string) string {
	ahead := []byte{
		byte(h.long), byte(h.long >> 8),
		byte(h.epoch), byte(h.epoch >> 8), byte(h.epoch >> 16), byte(h.epoch >> 24),
		byte(h.seq), byte(h.seq >> 8), byte(h.seq >> 16), byte(h.seq >> 24),
	}
	sum := crc32.ChecksumIEEE([]byte(string(ahead) + data))
	return "\x53\x4a" + string(ahead) + string([]byte{byte(sum), byte(sum >> 8), byte(sum >> 16), byte(sum >> 24)}) + data
}

// speltFrame is the bytes of a frame that may be.
func speltFrame(f api.Frame) string {
	return spelt(head{long: uint16(len(f.Data)), epoch: uint32(f.Epoch), seq: uint32(f.Seq)}, f.Data)
}

// drawn is a text of n bytes of all kinds.
func drawn(r *rand.Rand, n int) string {
	b := make([]byte, n)
	r.Read(b)
	return string(b)
}

// someFrames are frames that may be, with numbers and data at their ends.
func someFrames() []api.Frame {
	r := rand.New(rand.NewSource(12))
	data := []string{"", "a", "\x00", "\xff", "SJ", "\x53\x4a\x00\x00", "\u20ac\n", strings.Repeat("\x00", 16), strings.Repeat("\xff", 32)}
	for _, n := range []int{15, 16, 17, 31, 32, 33, 255, 256, 257, 512, 1023, 1024} {
		data = append(data, drawn(r, n))
	}
	var l []api.Frame
	for _, d := range data {
		for _, epoch := range []int{0, 1, 255, 256, 65535, 65536, 999998, 999999} {
			for _, seq := range []int{0, 1, 256, 65536, 1 << 24, 0x04030201, 1<<31 - 2, 1<<31 - 1} {
				l = append(l, api.Frame{Epoch: epoch, Seq: seq, Data: d})
			}
		}
	}
	return append(l, speltInData())
}

// speltInData is a frame whose data is another one.
func speltInData() api.Frame {
	return api.Frame{Epoch: 3, Seq: 4, Data: speltFrame(api.Frame{Epoch: 1, Seq: 2, Data: "within"})}
}

// someBehind are texts that may stand behind a frame.
func someBehind() []string {
	return []string{"", "\x00", "\xff", "S", "SJ", "XY", strings.Repeat("\xff", 31), strings.Repeat("\x00", 2000), speltFrame(api.Frame{Data: "b"})}
}

// spoken is a frame as a test tells it.
func spoken(f api.Frame) string {
	return fmt.Sprintf("(%d, %d, % x)", f.Epoch, f.Seq, f.Data)
}

// wantLaid holds what Lay answers against these bytes.
func wantLaid(t *testing.T, f api.Frame, want string) {
	t.Helper()
	if got, e := Lay(f); got != want || e != api.OK {
		t.Fatalf("Lay of %d, %d, %d bytes: % x, %s, want % x", f.Epoch, f.Seq, len(f.Data), got, api.Text(e), want)
	}
}

// wantNotLaid holds Lay to an error, and to no bytes beside it.
func wantNotLaid(t *testing.T, f api.Frame, want api.Errno) {
	t.Helper()
	if got, e := Lay(f); got != "" || e != want {
		t.Fatalf("Lay of %d, %d, %d bytes: %d bytes, %s, want %s", f.Epoch, f.Seq, len(f.Data), len(got), api.Text(e), api.Text(want))
	}
}

// wantOne holds what One answers against this frame.
func wantOne(t *testing.T, s string, want api.Frame, long int) {
	t.Helper()
	if got, n, e := One(s); got != want || n != long || e != api.OK {
		t.Fatalf("One of %d bytes: %s, %d, %s, want %s, %d", len(s), spoken(got), n, api.Text(e), spoken(want), long)
	}
}

// wantNone holds One to an error, and to no frame beside it.
func wantNone(t *testing.T, s string, want api.Errno) {
	t.Helper()
	if got, n, e := One(s); got != (api.Frame{}) || n != 0 || e != want {
		t.Fatalf("One(% x): %s, %d, %s, want %s", s, spoken(got), n, api.Text(e), api.Text(want))
	}
}

func TestLayOfFramesWhoseBytesAreKnown(t *testing.T) { // P12.1
	wantLaid(t, api.Frame{}, "SJ\x00\x00\x00\x00\x00\x00\x00\x00\x00\x00\x76\x68\x8a\xe3")
	wantLaid(t, api.Frame{Epoch: 1, Seq: 2, Data: "a"}, "SJ\x01\x00\x01\x00\x00\x00\x02\x00\x00\x00\xc1\x78\x07\xfda")
	wantLaid(t, api.Frame{Epoch: 999999, Seq: 0x04030201, Data: strings.Repeat("b", 258)},
		"SJ\x02\x01\x3f\x42\x0f\x00\x01\x02\x03\x04\xad\xad\xaa\xe3"+strings.Repeat("b", 258))
}

func TestLayIsAsTheChapterSpellsIt(t *testing.T) { // P12.1
	for _, f := range someFrames() {
		wantLaid(t, f, speltFrame(f))
	}
}

func TestLayOfNumbersThatMayNotBe(t *testing.T) { // P12.1
	most := strings.Repeat("a", 1024)
	// Some of these are numbers that may be, modulo 2^32.
	for _, epoch := range []int{math.MinInt, math.MinInt + 1, -1 << 32, -1, 1000000, 1 << 31, 1<<32 - 1, 1 << 32, 1<<32 + 1, math.MaxInt} {
		for _, seq := range []int{-1, 0, 1, 1<<31 - 1, 1 << 31} {
			for _, data := range []string{"", "a", most, most + "a"} {
				wantNotLaid(t, api.Frame{Epoch: epoch, Seq: seq, Data: data}, api.ErrRange)
			}
		}
	}
	for _, seq := range []int{math.MinInt, math.MinInt + 1, -1 << 32, -1, 1 << 31, 1<<31 + 1, 1<<32 - 1, 1 << 32, 1<<32 + 1, math.MaxInt} {
		for _, epoch := range []int{-1, 0, 1, 999999, 1000000} {
			for _, data := range []string{"", "a", most, most + "a"} {
				wantNotLaid(t, api.Frame{Epoch: epoch, Seq: seq, Data: data}, api.ErrRange)
			}
		}
	}
}

func TestLayOfTooLongData(t *testing.T) { // P12.1
	for _, n := range []int{1025, 1026, 2048, 65535, 65536, 65537, 65536 + 1024} {
		wantNotLaid(t, api.Frame{Data: strings.Repeat("a", n)}, api.ErrLong)
		wantNotLaid(t, api.Frame{Epoch: 999999, Seq: 1<<31 - 1, Data: strings.Repeat("\x00", n)}, api.ErrLong)
	}
}

func TestSize(t *testing.T) { // P12.1
	if Head != 16 {
		t.Fatalf("Head: %d", Head)
	}
	for _, x := range []struct{ n, want int }{
		{math.MinInt, 16}, {math.MinInt + 16, 16}, {-17, 16}, {-16, 16}, {-1, 16}, {0, 16}, {1, 17}, {16, 32}, {1024, 1040}, {1025, 1041},
		{65535, 65551}, {65536, 65552}, {1<<31 - 1, 1<<31 + 15}, {math.MaxInt - 17, math.MaxInt - 1}, {math.MaxInt - 16, math.MaxInt},
		// No sum wraps.
		{math.MaxInt - 15, math.MaxInt}, {math.MaxInt, math.MaxInt},
	} {
		if got := Size(x.n); got != x.want {
			t.Errorf("Size(%d): %d, want %d", x.n, got, x.want)
		}
	}
}

func TestSizeIsHowLongAFrameIs(t *testing.T) { // P12.1
	for n := range 1025 {
		s, e := Lay(api.Frame{Data: strings.Repeat("a", n)})
		if e != api.OK || len(s) != Size(n) {
			t.Fatalf("Lay of %d bytes: %d bytes, %s, but Size is %d", n, len(s), api.Text(e), Size(n))
		}
	}
}

func TestOneOfFramesThatTheChapterSpells(t *testing.T) { // P12.2
	for _, f := range someFrames() {
		s := speltFrame(f)
		for _, behind := range someBehind() {
			wantOne(t, s+behind, f, 16+len(f.Data))
		}
	}
}

func TestOneOfWhatDoesNotBeginAsAFrame(t *testing.T) { // P12.2
	whole := speltFrame(api.Frame{Epoch: 1, Seq: 2, Data: "data"})
	for _, s := range []string{"J", "X", "\x00", "\xff", "s", "SX", "S\x00", "S\xff", "Sj", "JS", "XJ", "\x00\x00", "SXJ", "XSJ"} {
		wantNone(t, s, api.ErrForm)
		wantNone(t, s+strings.Repeat("\x00", 14), api.ErrForm)
		// What else is wrong is told behind it.
		wantNone(t, s+strings.Repeat("\xff", 3000), api.ErrForm)
		wantNone(t, s+whole, api.ErrForm)
	}
	for b := range 256 {
		if b != 'S' {
			wantNone(t, string([]byte{byte(b)}), api.ErrForm)
			wantNone(t, string([]byte{byte(b)})+whole[1:], api.ErrForm)
		}
		if b != 'J' {
			wantNone(t, "S"+string([]byte{byte(b)}), api.ErrForm)
			wantNone(t, "S"+string([]byte{byte(b)})+whole[2:], api.ErrForm)
		}
	}
}

func TestOneOfFewerBytesThanAHead(t *testing.T) { // P12.2
	wantNone(t, "", api.ErrShort)
	wantNone(t, "S", api.ErrShort)
	wantNone(t, "SJ", api.ErrShort)
	for n := range 14 {
		// Also where a length that is too long stands there.
		for _, fill := range []string{"\x00", "\x01", "\xff"} {
			wantNone(t, "SJ"+strings.Repeat(fill, n), api.ErrShort)
		}
	}
}

func TestOneOfWhatSaysTooMuch(t *testing.T) { // P12.2
	for _, n := range []int{1025, 1026, 1279, 1280, 2048, 32768, 65535} {
		data := strings.Repeat("a", n)
		// Also where all of it stands there, with its sum.
		right := spelt(head{long: uint16(n)}, data)
		wantNone(t, right, api.ErrLong)
		wantNone(t, right[:16], api.ErrLong)
		wantNone(t, right[:len(right)-1], api.ErrLong)
		wantNone(t, right[:15], api.ErrShort)
		wantNone(t, spelt(head{long: uint16(n), epoch: 1000000, seq: 1 << 31}, data), api.ErrLong)
	}
	wantOne(t, spelt(head{long: 1024}, strings.Repeat("a", 1024)), api.Frame{Data: strings.Repeat("a", 1024)}, 1040)
}

func TestOneOfWhatLacksBytes(t *testing.T) { // P12.2
	for _, h := range []head{{}, {epoch: 999999, seq: 1<<31 - 1}, {epoch: 1000000}, {seq: 1 << 31}} {
		for _, n := range []int{0, 1, 2, 255, 256, 1023, 1024} {
			h.long = uint16(n)
			s := spelt(h, strings.Repeat("\x00", n))
			for end := range len(s) {
				wantNone(t, s[:end], api.ErrShort)
			}
		}
	}
}

func TestOneOfAnotherSum(t *testing.T) { // P12.2
	for _, data := range []string{"", "a", strings.Repeat("\x00", 20), strings.Repeat("\xff", 1024)} {
		for _, h := range []head{{}, {epoch: 999999, seq: 1<<31 - 1}, {epoch: 1000000}, {seq: 1 << 31}} {
			h.long = uint16(len(data))
			s := spelt(h, data)
			// Each bit behind the length is turned, those of the sum too.
			for bit := 4 * 8; bit < len(s)*8; bit++ {
				b := []byte(s)
				b[bit/8] ^= 1 << (bit % 8)
				wantNone(t, string(b), api.ErrSum)
				wantNone(t, string(b)+"behind", api.ErrSum)
			}
		}
	}
	wantNone(t, "SJ"+strings.Repeat("\x00", 14), api.ErrSum)
}

func TestOneSumsTheLengthToo(t *testing.T) { // P12.2
	s := speltFrame(api.Frame{Epoch: 1, Seq: 2, Data: strings.Repeat("\x00", 64)}) + strings.Repeat("\x00", 1024)
	for long := range 1025 {
		if long == 64 {
			continue
		}
		wantNone(t, s[:2]+string([]byte{byte(long), byte(long >> 8)})+s[4:], api.ErrSum)
	}
}

func TestOneOfNumbersThatMayNotBe(t *testing.T) { // P12.2
	for _, data := range []string{"", "a", strings.Repeat("b", 1024)} {
		long := uint16(len(data))
		for _, epoch := range []uint32{1000000, 1000001, 1 << 24, 1<<31 - 1, 1 << 31, 1<<31 + 1, 1<<32 - 1} {
			for _, seq := range []uint32{0, 1, 1<<31 - 1, 1 << 31, 1<<32 - 1} {
				wantNone(t, spelt(head{long: long, epoch: epoch, seq: seq}, data), api.ErrRange)
				wantNone(t, spelt(head{long: long, epoch: epoch, seq: seq}, data)+"behind", api.ErrRange)
			}
		}
		for _, seq := range []uint32{1 << 31, 1<<31 + 1, 1<<32 - 1} {
			for _, epoch := range []uint32{0, 1, 999999, 1000000} {
				wantNone(t, spelt(head{long: long, epoch: epoch, seq: seq}, data), api.ErrRange)
			}
		}
	}
}

func TestWhatIsLaidIsOne(t *testing.T) { // P12.3
	for _, f := range someFrames() {
		s, e := Lay(f)
		if e != api.OK {
			t.Fatalf("Lay of %d, %d, %d bytes: %s", f.Epoch, f.Seq, len(f.Data), api.Text(e))
		}
		for _, behind := range someBehind() {
			wantOne(t, s+behind, f, len(s))
		}
	}
}

// someBytes are bytes that are nearly frames, one way or another.
func someBytes(r *rand.Rand) string {
	data := drawn(r, r.Intn(40))
	h := head{long: uint16(len(data)), epoch: r.Uint32() % 1000002, seq: r.Uint32()}
	if r.Intn(2) == 0 {
		h.seq >>= 1
	}
	b := []byte(spelt(h, data) + drawn(r, r.Intn(3)))
	switch r.Intn(4) {
	case 0:
		b[r.Intn(len(b))] ^= 1 << r.Intn(8)
	case 1:
		b = b[:r.Intn(len(b)+1)]
	}
	return string(b)
}

// plain is the chapter's order of One's errors, spelt out.
func plain(s string) (string, api.Errno) {
	if !strings.HasPrefix("SJ", s) && !strings.HasPrefix(s, "SJ") {
		return "", api.ErrForm
	}
	if len(s) < 16 {
		return "", api.ErrShort
	}
	number := func(at int) int { return int(s[at]) + int(s[at+1])<<8 }
	long := number(2)
	if long > 1024 {
		return "", api.ErrLong
	}
	if len(s) < 16+long {
		return "", api.ErrShort
	}
	h := head{long: uint16(long), epoch: uint32(number(4) + number(6)<<16), seq: uint32(number(8) + number(10)<<16)}
	s = s[:16+long]
	if spelt(h, s[16:]) != s {
		return "", api.ErrSum
	}
	if h.epoch > 999999 || h.seq > 1<<31-1 {
		return "", api.ErrRange
	}
	return s, api.OK
}

func TestWhatIsOneIsLaidAsTheSameBytes(t *testing.T) { // P12.2, P12.3
	r := rand.New(rand.NewSource(13))
	told := map[api.Errno]int{}
	for range 30000 {
		s := someBytes(r)
		want, e := plain(s)
		told[e]++
		if e != api.OK {
			wantNone(t, s, e)
			continue
		}
		f, n, got := One(s)
		if got != api.OK || s[:n] != want {
			t.Fatalf("One(% x): %s, %d, %s", s, spoken(f), n, api.Text(got))
		}
		wantLaid(t, f, want)
	}
	for _, e := range []api.Errno{api.OK, api.ErrForm, api.ErrShort, api.ErrLong, api.ErrSum, api.ErrRange} {
		if told[e] < 50 {
			t.Errorf("%s was told %d times only", api.Text(e), told[e])
		}
	}
}

func TestOneOfAnyBytesEnds(t *testing.T) { // P1
	r := rand.New(rand.NewSource(14))
	for n := range 3000 {
		for _, s := range []string{drawn(r, n), "S" + drawn(r, n), "SJ" + drawn(r, n), strings.Repeat("SJ", n)} {
			f, long, e := One(s)
			want, wantErr := plain(s)
			if e != wantErr || long != len(want) || e != api.OK && f != (api.Frame{}) {
				t.Fatalf("One(% x): %s, %d, %s, want %s", s, spoken(f), long, api.Text(e), api.Text(wantErr))
			}
		}
	}
}

func TestTheExample(t *testing.T) { // the chapter's examples
	if got := Size(0); got != 16 {
		t.Errorf("Size(0): %d", got)
	}
}
