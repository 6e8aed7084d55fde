package fuse

import (
	"fmt"
	"math"
	"math/rand"
	"testing"

	"stylus/api"
)

// plain is a fuse that counts the calls of each kind from its beginning on, and knows of each fault the number of the call that it comes with.
type plain struct {
	off    bool
	calls  map[int]int
	faults map[int]int
}

func newPlain() *plain { return &plain{calls: map[int]int{}, faults: map[int]int{}} }

func (p *plain) arm(x api.Fault) bool {
	switch x.Kind {
	case api.NoFault:
		if x.At < 0 {
			return false
		}
		p.faults = map[int]int{}
		return true
	case api.FaultPut, api.FaultSync, api.FaultDown:
		if x.At < 0 {
			return false
		}
		p.faults[x.Kind] = p.calls[x.Kind] + x.At
		return true
	}
	return false
}

// comes counts a call of the kind, and tells whether its fault comes with it.
func (p *plain) comes(kind int) bool {
	n := p.calls[kind]
	p.calls[kind]++
	at, ok := p.faults[kind]
	return ok && at == n
}

func (p *plain) call(kind int) api.Errno {
	if p.off {
		return api.ErrDown
	}
	if p.comes(api.FaultDown) {
		p.off = true
		return api.ErrDown
	}
	if p.comes(kind) {
		return api.ErrIO
	}
	return api.OK
}

func (p *plain) reset() {
	p.off = false
	p.faults = map[int]int{}
}

func (p *plain) copy() *plain {
	q := newPlain()
	q.off = p.off
	for k, n := range p.calls {
		q.calls[k] = n
	}
	for k, n := range p.faults {
		q.faults[k] = n
	}
	return q
}

// someInts are numbers, those at their ends among them.
func someInts() []int {
	return []int{math.MinInt, math.MinInt + 1, -1 << 32, -2, -1, 0, 1, 2, 3, 4, 5, 1 << 31, 1 << 32, math.MaxInt - 1, math.MaxInt}
}

// armed is a new fuse with these faults.
func armed(t *testing.T, faults ...api.Fault) *Fuse {
	t.Helper()
	f := New()
	for _, x := range faults {
		if !f.Arm(x) {
			t.Fatalf("Arm(%v): false", x)
		}
	}
	return f
}

// calls does calls, p a Put and s a Sync, and tells their answers: . OK, i ErrIO, d ErrDown.
func calls(f *Fuse, which string) string {
	told := ""
	for _, c := range which {
		e := api.OK
		if c == 'p' {
			e = f.Put()
		} else {
			e = f.Sync()
		}
		switch e {
		case api.OK:
			told += "."
		case api.ErrIO:
			told += "i"
		case api.ErrDown:
			told += "d"
		default:
			told += "<" + api.Text(e) + ">"
		}
	}
	return told
}

// want holds the answers of calls against those told.
func want(t *testing.T, f *Fuse, which, told string) {
	t.Helper()
	if got := calls(f, which); got != told {
		t.Fatalf("%s: %s, want %s", which, got, told)
	}
}

func TestKindsAreNumberedAsPackageApiDoes(t *testing.T) { // P10.1
	if none != api.NoFault || put != api.FaultPut || sync != api.FaultSync || down != api.FaultDown || kinds != 4 {
		t.Fatal("other numbers")
	}
}

func TestANewFuseHasNoFaults(t *testing.T) { // the chapter's head
	f, g := New(), New()
	if f == nil || !f.Up() {
		t.Fatal("the power is not on")
	}
	want(t, f, "pspspspp", "........")
	f.Arm(api.Fault{Kind: api.FaultDown})
	want(t, f, "p", "d")
	if !g.Up() || f.Up() {
		t.Fatal("two fuses share their power")
	}
	want(t, g, "ps", "..")
}

func TestTheExample(t *testing.T) { // P10.1, P10.2
	f := armed(t, api.Fault{Kind: api.FaultPut, At: 1})
	want(t, f, "ppp", ".i.")
}

func TestArmOfWhatMayNotBeChangesNothing(t *testing.T) { // P10.1
	for _, kind := range someInts() {
		for _, at := range someInts() {
			x := api.Fault{Kind: kind, At: at}
			if kind >= 0 && kind <= 3 && at >= 0 {
				continue
			}
			f := armed(t, api.Fault{Kind: api.FaultPut, At: 1}, api.Fault{Kind: api.FaultSync, At: 2}, api.Fault{Kind: api.FaultDown, At: 6})
			for range 2 {
				if f.Arm(x) {
					t.Fatalf("Arm(%v): true", x)
				}
			}
			if !f.Up() {
				t.Fatalf("Arm(%v): the power is off", x)
			}
			want(t, f, "pppsssp", ".i...id")
			if f.Arm(x) || f.Up() {
				t.Fatalf("Arm(%v) with the power off: true, or it is on", x)
			}
		}
	}
}

func TestArmOfNoFaultTakesAllAway(t *testing.T) { // P10.1
	for _, at := range someInts() {
		f := armed(t, api.Fault{Kind: api.FaultPut}, api.Fault{Kind: api.FaultSync}, api.Fault{Kind: api.FaultDown, At: 2})
		if got := f.Arm(api.Fault{Kind: api.NoFault, At: at}); got != (at >= 0) {
			t.Fatalf("Arm of NoFault, %d: %v", at, got)
		}
		if at < 0 {
			want(t, f, "psp", "iid")
		} else {
			want(t, f, "pspspsps", "........")
		}
	}
}

func TestArmOfNoFaultLetsThePowerOff(t *testing.T) { // P10.1
	f := armed(t, api.Fault{Kind: api.FaultDown})
	want(t, f, "s", "d")
	if !f.Arm(api.Fault{}) || f.Up() {
		t.Fatal("Arm of NoFault is false, or the power is on")
	}
	want(t, f, "psps", "dddd")
}

func TestAFaultIsTheOneOfItsKind(t *testing.T) { // P10.1
	for kind, told := range map[int][]string{
		api.FaultPut:  {"..i...", "i.....", "...i.."},
		api.FaultSync: {"..i...", "i.....", "...i.."},
		api.FaultDown: {"..dddd", "dddddd", "...ddd"},
	} {
		which := "pppppp"
		if kind == api.FaultSync {
			which = "ssssss"
		}
		for i, ats := range [][]int{{5, 2}, {2, 0}, {0, 3}} {
			f := New()
			for _, at := range ats {
				if !f.Arm(api.Fault{Kind: kind, At: at}) {
					t.Fatal("Arm: false")
				}
			}
			want(t, f, which, told[i])
		}
	}
}

func TestAFaultOfOneKindLetsTheOthers(t *testing.T) { // P10.1, P10.2
	f := armed(t, api.Fault{Kind: api.FaultPut, At: 1}, api.Fault{Kind: api.FaultSync, At: 1}, api.Fault{Kind: api.FaultDown, At: 6})
	want(t, f, "pspsps", "..ii..")
	want(t, f, "sp", "dd")
}

func TestAFaultIsCountedFromWhereItIsArmed(t *testing.T) { // P10.1, P10.2
	for kind, told := range []string{"......", "....i.", "...i..", "..dddd"} {
		f := New()
		want(t, f, "pspsppp", ".......")
		if !f.Arm(api.Fault{Kind: kind, At: 2}) {
			t.Fatal("Arm: false")
		}
		want(t, f, []string{"pspsps", "pspsps", "psssps", "pspsps"}[kind], told)
	}
}

func TestPutAndSyncFailOnceEach(t *testing.T) { // P10.2
	for n := range 6 {
		for m := range 6 {
			f := armed(t, api.Fault{Kind: api.FaultPut, At: n}, api.Fault{Kind: api.FaultSync, At: m})
			for i := range 9 {
				if e := f.Put(); (e == api.ErrIO) != (i == n) || e != api.ErrIO && e != api.OK {
					t.Fatalf("Put %d of FaultPut, %d: %v", i, n, api.Text(e))
				}
				if e := f.Sync(); (e == api.ErrIO) != (i == m) || e != api.ErrIO && e != api.OK {
					t.Fatalf("Sync %d of FaultSync, %d: %v", i, m, api.Text(e))
				}
				if !f.Up() {
					t.Fatal("the power is off")
				}
			}
		}
	}
}

func TestAFaultThatCameMayBeArmedAnew(t *testing.T) { // P10.1, P10.2
	f := armed(t, api.Fault{Kind: api.FaultPut})
	want(t, f, "pp", "i.")
	if !f.Arm(api.Fault{Kind: api.FaultPut, At: 1}) {
		t.Fatal("Arm: false")
	}
	want(t, f, "ppp", ".i.")
}

func TestThePowerGoesAheadOfAnotherFault(t *testing.T) { // P10.2
	for _, which := range []string{"pp", "ss"} {
		f := armed(t, api.Fault{Kind: api.FaultPut}, api.Fault{Kind: api.FaultSync}, api.Fault{Kind: api.FaultDown})
		want(t, f, which, "dd")
		f = armed(t, api.Fault{Kind: api.FaultPut, At: 1}, api.Fault{Kind: api.FaultSync, At: 1}, api.Fault{Kind: api.FaultDown, At: 1})
		want(t, f, which, ".d")
	}
}

func TestACallThatFailsCountsForThePower(t *testing.T) { // P10.2, P10.3
	f := armed(t, api.Fault{Kind: api.FaultDown, At: 2}, api.Fault{Kind: api.FaultPut}, api.Fault{Kind: api.FaultSync})
	want(t, f, "pspp", "iidd")
}

func TestWithThePowerOffNothingIsCounted(t *testing.T) { // P10.2
	f := armed(t, api.Fault{Kind: api.FaultDown})
	want(t, f, "p", "d")
	for kind := range 4 {
		for range 2 {
			if !f.Arm(api.Fault{Kind: kind, At: 1}) || f.Up() {
				t.Fatal("Arm with the power off is false, or the power is on")
			}
			want(t, f, "ppss", "dddd")
		}
	}
}

func TestJustSoManyCallsMore(t *testing.T) { // P10.3
	r := rand.New(rand.NewSource(3))
	for n := range 40 {
		f := armed(t, api.Fault{Kind: api.FaultDown, At: n}, api.Fault{Kind: api.FaultPut, At: r.Intn(20)}, api.Fault{Kind: api.FaultSync, At: r.Intn(20)})
		for i := range n + 20 {
			if f.Up() != (i <= n) {
				t.Fatalf("FaultDown, %d: ahead of call %d the power is %v", n, i, f.Up())
			}
			e := f.Sync
			if r.Intn(2) == 0 {
				e = f.Put
			}
			if got := e(); (got == api.ErrDown) != (i >= n) {
				t.Fatalf("FaultDown, %d: call %d: %v", n, i, api.Text(got))
			}
		}
		f.Reset()
		if !f.Up() {
			t.Fatal("behind Reset the power is off")
		}
		want(t, f, "pspspspspspspspspspspspspspspspspspspspsps", "..........................................")
	}
}

func TestResetTakesAllAway(t *testing.T) { // P10.2
	for kind := range 4 {
		for at := range 4 {
			f := armed(t, api.Fault{Kind: kind, At: at})
			f.Reset()
			want(t, f, "pspspsps", "........")
			f = armed(t, api.Fault{Kind: api.FaultDown})
			want(t, f, "s", "d")
			f.Arm(api.Fault{Kind: kind, At: at})
			for range 2 {
				f.Reset()
				if !f.Up() {
					t.Fatal("behind Reset the power is off")
				}
			}
			want(t, f, "pspspsps", "........")
		}
	}
}

func TestFaultsThatNeverCome(t *testing.T) { // P10.1, P10.2
	f := armed(t, api.Fault{Kind: api.FaultPut, At: math.MaxInt}, api.Fault{Kind: api.FaultSync, At: math.MaxInt - 1}, api.Fault{Kind: api.FaultDown, At: math.MaxInt})
	for range 5000 {
		want(t, f, "ps", "..")
	}
}

// drawnCall does one call to both, and tells which.
func drawnCall(t *testing.T, r *rand.Rand, f *Fuse, p *plain) string {
	t.Helper()
	what, got, want := "", any(nil), any(nil)
	switch n := r.Intn(20); {
	case n < 4:
		x := api.Fault{Kind: r.Intn(7) - 1, At: r.Intn(9) - 1}
		if r.Intn(6) == 0 {
			x = api.Fault{Kind: int(r.Uint64()), At: int(r.Uint64())}
		}
		what, got, want = fmt.Sprintf("Arm(%v)", x), f.Arm(x), p.arm(x)
	case n < 11:
		what, got, want = "Put", f.Put(), p.call(api.FaultPut)
	case n < 18:
		what, got, want = "Sync", f.Sync(), p.call(api.FaultSync)
	case n < 19:
		what = "Reset"
		f.Reset()
		p.reset()
	default:
		what, got, want = "Up", f.Up(), !p.off
	}
	if got != want {
		t.Fatalf("%s: %v, want %v", what, got, want)
	}
	if f.Up() == p.off {
		t.Fatalf("behind %s: Up %v, want %v", what, f.Up(), !p.off)
	}
	return what
}

func TestFusesAreAsThePlainOnes(t *testing.T) { // P10.1, P10.2, P10.3, R1
	r := rand.New(rand.NewSource(10))
	for range 2000 {
		f, p := New(), newPlain()
		for range 60 {
			drawnCall(t, r, f, p)
		}
	}
}

func TestACopyIsAsItAndAnother(t *testing.T) { // R3, R4, the chapter's head
	r := rand.New(rand.NewSource(11))
	for range 2000 {
		f, p := New(), newPlain()
		for range r.Intn(20) {
			drawnCall(t, r, f, p)
		}
		g, q := f.Copy(), p.copy()
		if g == nil || g == f || g.Up() != f.Up() {
			t.Fatal("no copy")
		}
		for range 20 {
			if r.Intn(2) == 0 {
				drawnCall(t, r, f, p)
			} else {
				drawnCall(t, r, g, q)
			}
		}
	}
}

func TestAFuseThatNoCallMadeStaysSo(t *testing.T) { // R5, P1, the chapter's head
	var zero Fuse
	for _, f := range []*Fuse{nil, &zero, new(Fuse)} {
		same := func(what string) {
			t.Helper()
			if f.Put() != api.ErrMade || f.Sync() != api.ErrMade || f.Up() || f.Copy() != nil {
				t.Fatalf("behind %s: a fuse that no call made answers otherwise", what)
			}
		}
		for range 2 {
			same("nothing")
			for _, kind := range someInts() {
				for _, at := range someInts() {
					if f.Arm(api.Fault{Kind: kind, At: at}) {
						t.Fatalf("Arm of kind %d, at %d, of a fuse that no call made: true", kind, at)
					}
					same("Arm")
				}
			}
			f.Reset()
			same("Reset")
		}
	}
	if zero != (Fuse{}) {
		t.Fatal("the zero value has changed")
	}
}
