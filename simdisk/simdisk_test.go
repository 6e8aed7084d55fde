package simdisk

import (
	"fmt"
	"maps"
	"math"
	"math/rand"
	"slices"
	"strings"
	"testing"

	"stylus/api"
)

// plainFile is a file as two texts: what lasts, and what is seen.
type plainFile struct{ kept, now string }

// plain is a disk that keeps all files that were ever created, and its directory as it was behind each change: the first of these lasts, the last one is seen.
type plain struct {
	sectors int
	states  []map[string]int
	files   []plainFile // the file 1 first
	faults  map[int]int // by kinds: how many calls come ahead
	off     bool
	calls   int
}

func newPlain(sectors int) *plain {
	return &plain{sectors: sectors, states: []map[string]int{{}}, faults: map[int]int{}}
}

func loadPlain(sectors int, l []api.File) *plain {
	p := newPlain(sectors)
	for i, f := range l {
		p.files = append(p.files, plainFile{f.Data, f.Data})
		p.states[0][f.Name] = i + 1
	}
	return p
}

func (p *plain) now() map[string]int { return p.states[len(p.states)-1] }

// file is the one that is seen by that name; nil, if there is none.
func (p *plain) file(name string) *plainFile {
	if id := p.now()[name]; id > 0 {
		return &p.files[id-1]
	}
	return nil
}

// still are the numbers of all files that can be there still.
func (p *plain) still() []int {
	all := map[int]int{}
	for _, m := range p.states {
		for _, id := range m {
			all[id]++
		}
	}
	return slices.Sorted(maps.Keys(all))
}

// begun is how many sectors so many bytes begin.
func begun(bytes int) int {
	n := 0
	for n*32 < bytes {
		n++
	}
	return n
}

func (f plainFile) sectors() int { return max(begun(len(f.kept)), begun(len(f.now))) }

func (p *plain) free() int {
	n := p.sectors
	for _, id := range p.still() {
		n -= p.files[id-1].sectors()
	}
	return n
}

// share is what the text has of the sector k.
func share(s string, k int) string {
	if k*32 >= len(s) {
		return ""
	}
	return s[k*32 : min(k*32+32, len(s))]
}

// crash is what a crash leaves of a file, and how many choices that is of.
func (f plainFile) crash(choices string) (string, int) {
	left, asked := "", 0
	for k := range f.sectors() {
		own := share(f.now, k)
		if share(f.kept, k) != own {
			choice := byte(0)
			if asked < len(choices) {
				choice = choices[asked] % 3
			}
			asked++
			switch choice {
			case 0:
				own = share(f.kept, k)
			case 2:
				own = zeros(len(own))
			}
		}
		if own != "" {
			left += zeros(k*32-len(left)) + own
		}
	}
	return left, asked
}

func (p *plain) crash(choices string) int {
	p.off, p.faults = false, map[int]int{}
	files := p.still()
	choice := 0
	if choices != "" {
		choice = int(choices[0])
		choices = choices[1:]
	}
	p.states = p.states[choice%len(p.states):][:1]
	used := 1
	for _, id := range files {
		left, n := p.files[id-1].crash(choices)
		p.files[id-1] = plainFile{left, left}
		choices = choices[min(n, len(choices)):]
		used += n
	}
	return used
}

// strikes tells whether the fault of that kind comes with this call.
func (p *plain) strikes(kind int) bool {
	n, ok := p.faults[kind]
	if ok && n == 0 {
		delete(p.faults, kind)
		return true
	}
	if ok {
		p.faults[kind] = n - 1
	}
	return false
}

// fuse is the error of a call of that kind.
func (p *plain) fuse(kind int) api.Errno {
	p.calls++
	if p.strikes(api.FaultDown) {
		p.off = true
		return api.ErrDown
	}
	if p.strikes(kind) {
		return api.ErrIO
	}
	return api.OK
}

// change makes another directory.
func (p *plain) change(how func(map[string]int)) {
	next := maps.Clone(p.now())
	how(next)
	p.states = append(p.states, next)
}

// may tells whether a file may have that name.
func may(name string) bool {
	return len(name) >= 1 && len(name) <= 24 && strings.Trim(name, "abcdefghijklmnopqrstuvwxyz0123456789-.") == ""
}

func (p *plain) create(name string) api.Errno {
	switch {
	case p.off:
		return api.ErrDown
	case !may(name):
		return api.ErrName
	case p.file(name) != nil:
		return api.ErrExist
	case len(p.still()) >= 64:
		return api.ErrMany
	}
	e := p.fuse(api.FaultPut)
	if e == api.OK {
		p.files = append(p.files, plainFile{})
		p.change(func(m map[string]int) { m[name] = len(p.files) })
	}
	return e
}

func (p *plain) append(name, s string) api.Errno {
	f := p.file(name)
	switch {
	case p.off:
		return api.ErrDown
	case f == nil:
		return api.ErrNone
	case p.free()+f.sectors()-(plainFile{f.kept, f.now + s}).sectors() < 0:
		return api.ErrFull
	}
	e := p.fuse(api.FaultPut)
	if e == api.OK {
		f.now += s
	}
	return e
}

func (p *plain) cut(name string, n int) api.Errno {
	f := p.file(name)
	switch {
	case p.off:
		return api.ErrDown
	case f == nil:
		return api.ErrNone
	case n < 0 || n > len(f.now):
		return api.ErrRange
	}
	e := p.fuse(api.FaultPut)
	if e == api.OK {
		f.now = f.now[:n]
	}
	return e
}

func (p *plain) sync(name string) api.Errno {
	f := p.file(name)
	switch {
	case p.off:
		return api.ErrDown
	case f == nil:
		return api.ErrNone
	}
	e := p.fuse(api.FaultSync)
	if e == api.OK {
		f.kept = f.now
	}
	return e
}

func (p *plain) rename(from, to string) api.Errno {
	switch {
	case p.off:
		return api.ErrDown
	case p.file(from) == nil:
		return api.ErrNone
	case !may(to):
		return api.ErrName
	}
	e := p.fuse(api.FaultPut)
	if e == api.OK && from != to {
		p.change(func(m map[string]int) {
			m[to] = m[from]
			delete(m, from)
		})
	}
	return e
}

func (p *plain) remove(name string) api.Errno {
	switch {
	case p.off:
		return api.ErrDown
	case p.file(name) == nil:
		return api.ErrNone
	}
	e := p.fuse(api.FaultPut)
	if e == api.OK {
		p.change(func(m map[string]int) { delete(m, name) })
	}
	return e
}

func (p *plain) syncAll() api.Errno {
	if p.off {
		return api.ErrDown
	}
	e := p.fuse(api.FaultSync)
	if e == api.OK {
		p.states = p.states[len(p.states)-1:]
	}
	return e
}

func (p *plain) fault(x api.Fault) api.Errno {
	switch {
	case p.off:
		return api.ErrDown
	case x.Kind < 0 || x.Kind > 3 || x.At < 0:
		return api.ErrArg
	case x.Kind == api.NoFault:
		p.faults = map[int]int{}
	default:
		p.faults[x.Kind] = x.At
	}
	return api.OK
}

func (p *plain) copy() *plain {
	q := *p
	q.states, q.files, q.faults = slices.Clone(p.states), slices.Clone(p.files), maps.Clone(p.faults)
	return &q
}

// list are the files that are seen.
func (p *plain) list() []api.File {
	var l []api.File
	for _, name := range slices.Sorted(maps.Keys(p.now())) {
		l = append(l, api.File{Name: name, Data: p.file(name).now})
	}
	return l
}

// check holds all that a disk tells against the plain one.
func check(t *testing.T, what string, d *Disk, p *plain) {
	t.Helper()
	if d == nil {
		t.Fatalf("%s: no disk", what)
	}
	if got, want := d.Files(), p.list(); !slices.Equal(got, want) {
		t.Fatalf("%s: files %q, want %q", what, got, want)
	}
	if d.Free() != p.free() || d.Up() == p.off || d.Calls() != p.calls {
		t.Fatalf("%s: %d free, Up %v, %d calls, want %d, %v, %d", what, d.Free(), d.Up(), d.Calls(), p.free(), !p.off, p.calls)
	}
	names, e := d.List()
	if want := names == nil && e == api.ErrDown; p.off && !want {
		t.Fatalf("%s: List with the power off: %q, %s", what, names, api.Text(e))
	}
	if want := slices.Sorted(maps.Keys(p.now())); !p.off && (e != api.OK || !slices.Equal(names, want)) {
		t.Fatalf("%s: List %q, %s, want %q", what, names, api.Text(e), want)
	}
	for _, name := range append(names, someNames()...) {
		s, e := d.Read(name)
		want, err := "", api.ErrNone
		if f := p.file(name); p.off {
			err = api.ErrDown
		} else if f != nil {
			want, err = f.now, api.OK
		}
		if s != want || e != err {
			t.Fatalf("%s: Read(%q): %q, %s, want %q, %s", what, name, s, api.Text(e), want, api.Text(err))
		}
	}
}

// zeros has n bytes 0.
func zeros(n int) string { return strings.Repeat("\x00", max(n, 0)) }

// numbered has n bytes, of which none is 0 nor as the one 32 behind it.
func numbered(n int) string {
	b := make([]byte, n)
	for i := range b {
		b[i] = byte(i%251 + 1)
	}
	return string(b)
}

// drawn is a text of n bytes of all kinds.
func drawn(r *rand.Rand, n int) string {
	b := make([]byte, n)
	for i := range b {
		b[i] = byte(r.Intn(256))
	}
	return string(b)
}

// goodNames are names that files may have.
func goodNames() []string {
	return []string{"a", "b", "c", "-", ".", "0", "a-b.c", "tmp-save", strings.Repeat("n", 24)}
}

// badNames are names that no file may have.
func badNames() []string {
	return []string{"", "A", "a b", "a_", "\x00", "a\x00", "a/b", "\xff", "\u00e4", "a\n", strings.Repeat("n", 25), strings.Repeat("n", 4096)}
}

// someNames are names of both kinds.
func someNames() []string { return append(goodNames(), badNames()...) }

// ends are the ints at their ends.
func ends() []int { return []int{math.MinInt, math.MinInt + 1, math.MaxInt - 1, math.MaxInt} }

// fresh is a new disk.
func fresh(t *testing.T, sectors int) *Disk {
	t.Helper()
	d, e := New(sectors)
	if d == nil || e != api.OK {
		t.Fatalf("New(%d): %s", sectors, api.Text(e))
	}
	return d
}

// loaded is a disk on which these last.
func loaded(t *testing.T, sectors int, l ...api.File) *Disk {
	t.Helper()
	d, e := Load(sectors, l)
	if d == nil || e != api.OK {
		t.Fatalf("Load(%d, %q): %s", sectors, l, api.Text(e))
	}
	return d
}

// ok asks that all these are no error.
func ok(t *testing.T, l ...api.Errno) {
	t.Helper()
	for i, e := range l {
		if e != api.OK {
			t.Fatalf("call %d: %s", i, api.Text(e))
		}
	}
}

// told holds an error against the one that should be.
func told(t *testing.T, what string, got, want api.Errno) {
	t.Helper()
	if got != want {
		t.Fatalf("%s: %s, want %s", what, api.Text(got), api.Text(want))
	}
}

// files holds what is seen against names and bytes, one behind the other.
func files(t *testing.T, what string, d *Disk, want ...string) {
	t.Helper()
	var l []string
	for _, f := range d.Files() {
		l = append(l, f.Name, f.Data)
	}
	if !slices.Equal(l, want) {
		t.Fatalf("%s: files %q, want %q", what, l, want)
	}
}

// crashed is what a crash of a copy leaves.
func crashed(d *Disk, choices string) *Disk {
	c := d.Copy()
	c.Crash(choices)
	return c
}

func TestTheExamples(t *testing.T) { // P11.1 to P11.5
	d := fresh(t, 9)
	ok(t, d.Create("a"), d.Append("a", "x"), d.Sync("a"))
	c := d.Copy()
	d.Crash("")
	files(t, "Crash", d)
	ok(t, c.SyncAll())
	c.Crash("")
	files(t, "Crash behind SyncAll", c, "a", "x")
}

func TestADiskHasSoManySectors(t *testing.T) { // P11.1
	for _, n := range []int{1, 2, 32, 64, 4095, 4096} {
		check(t, "New", fresh(t, n), newPlain(n))
		check(t, "Load of none", loaded(t, n), newPlain(n))
	}
	many := make([]api.File, 65)
	for _, n := range append(ends(), -4096, -1, 0, 4097, 4098, 1<<32+1) {
		for _, l := range [][]api.File{nil, {{Name: "a", Data: "x"}}, {{Name: "A"}}, many} {
			if d, e := Load(n, l); d != nil || e != api.ErrArg {
				t.Fatalf("Load(%d) of %d files: %v, %s", n, len(l), d != nil, api.Text(e))
			}
		}
		if d, e := New(n); d != nil || e != api.ErrArg {
			t.Fatalf("New(%d): %v, %s", n, d != nil, api.Text(e))
		}
	}
}

func TestNewDisksShareNothing(t *testing.T) { // P11.1
	d, c := fresh(t, 3), fresh(t, 3)
	ok(t, d.Create("a"), d.Append("a", "x"), d.Fault(api.Fault{Kind: api.FaultDown}))
	told(t, "SyncAll", d.SyncAll(), api.ErrDown)
	check(t, "the other one", c, newPlain(3))
}

// many are n files of so many bytes each.
func many(n, bytes int) []api.File {
	l := make([]api.File, n)
	for i := range l {
		l[i] = api.File{Name: fmt.Sprintf("f%02d", n-i), Data: numbered(bytes)}
	}
	return l
}

func TestWhatIsLoadedLasts(t *testing.T) { // P11.1
	l := []api.File{{Name: "b", Data: numbered(70)}, {Name: "a", Data: ""}, {Name: "-", Data: "\x00\xff"}, {Name: strings.Repeat("z", 24), Data: zeros(32)}}
	for _, l := range [][]api.File{nil, {}, l[:1], l, many(64, 1), many(64, 64), many(64, 0)} {
		d, p := loaded(t, 128, l...), loadPlain(128, l)
		check(t, "Load", d, p)
		for _, choices := range []string{"", "\x00", "\x01\x01\x01", "\x02\x02", "\xff\x02\x02\x02"} {
			if n := d.Crash(choices); n != 1 {
				t.Fatalf("Crash of what lasts used %d choices", n)
			}
			check(t, "Crash behind Load", d, p)
		}
	}
}

func TestLoadTellsWhatIsWrongFirst(t *testing.T) { // P11.1
	full := numbered(33)
	for _, x := range []struct {
		sectors int
		l       []api.File
		want    api.Errno
	}{
		{9, many(65, 0), api.ErrMany},
		{9, many(65, 99), api.ErrMany},
		{9, append(many(64, 0), api.File{Name: "A"}), api.ErrMany},
		{9, append([]api.File{{Name: "A"}}, many(64, 0)...), api.ErrMany},
		{9, append([]api.File{{Name: "f01"}}, many(64, 0)...), api.ErrMany},
		{9, []api.File{{Name: "a"}, {Name: "a"}}, api.ErrExist},
		{9, []api.File{{Name: "a"}, {Name: "b"}, {Name: "a"}, {Name: "A"}}, api.ErrExist},
		{9, []api.File{{Name: "a"}, {Name: "A"}, {Name: "a"}}, api.ErrName},
		{9, []api.File{{Name: "A"}, {Name: "A"}}, api.ErrName},
		{9, []api.File{{Name: "a"}, {Name: ""}}, api.ErrName},
		{1, []api.File{{Name: "a", Data: full}, {Name: "b"}, {Name: "b"}}, api.ErrExist},
		{1, []api.File{{Name: "a", Data: full}, {Name: "B"}}, api.ErrName},
		{1, []api.File{{Name: "a", Data: full}, {Name: "b"}}, api.ErrFull},
		{1, []api.File{{Name: "a", Data: "x"}, {Name: "b", Data: "x"}}, api.ErrFull},
		{63, many(64, 1), api.ErrFull},
		{127, many(64, 33), api.ErrFull},
		{4095, []api.File{{Name: "a", Data: numbered(131072)}}, api.ErrFull},
		{4096, []api.File{{Name: "a", Data: numbered(131073)}}, api.ErrFull},
	} {
		if d, e := Load(x.sectors, x.l); d != nil || e != x.want {
			t.Errorf("Load(%d) of %d files: %v, %s, want %s", x.sectors, len(x.l), d != nil, api.Text(e), api.Text(x.want))
		}
	}
	for _, name := range badNames() {
		if d, e := Load(9, []api.File{{Name: name}}); d != nil || e != api.ErrName {
			t.Errorf("Load of %q: %v, %s", name, d != nil, api.Text(e))
		}
	}
}

func TestLoadOfAFullDisk(t *testing.T) { // P11.1
	for _, x := range []struct {
		sectors int
		l       []api.File
	}{
		{64, many(64, 1)}, {64, many(64, 32)}, {128, many(64, 33)}, {1, []api.File{{Name: "a", Data: numbered(32)}, {Name: "b"}}}, {4096, []api.File{{Name: "a", Data: numbered(131072)}}},
	} {
		d := loaded(t, x.sectors, x.l...)
		if d.Free() != 0 {
			t.Fatalf("%d sectors are free", d.Free())
		}
		check(t, "Load", d, loadPlain(x.sectors, x.l))
	}
}

func TestLoadKeepsNoListOfItsCaller(t *testing.T) { // R3
	l := make([]api.File, 2, 4)
	l[0], l[1] = api.File{Name: "b", Data: "1"}, api.File{Name: "a", Data: "2"}
	d := loaded(t, 9, l...)
	if l[0] != (api.File{Name: "b", Data: "1"}) || l[1] != (api.File{Name: "a", Data: "2"}) || l[:4][2] != (api.File{}) {
		t.Fatalf("the list was changed: %q", l[:4])
	}
	l[0] = api.File{Name: "c", Data: "3"}
	files(t, "Load", d, "a", "2", "b", "1")
}

func TestCreateIsAnEmptyFile(t *testing.T) { // P11.2
	d, p := fresh(t, 1), newPlain(1)
	for _, name := range goodNames() {
		told(t, "Create", d.Create(name), p.create(name))
		check(t, "Create", d, p)
		told(t, "Create again", d.Create(name), api.ErrExist)
		check(t, "Create again", d, p)
	}
	for _, name := range badNames() {
		told(t, "Create of a name that may not be", d.Create(name), api.ErrName)
		check(t, "Create of a name that may not be", d, p)
	}
}

func TestCreateOfAsManyFilesAsThereCanBe(t *testing.T) { // P11.2
	d, p := loaded(t, 64, many(62, 1)...), loadPlain(64, many(62, 1))
	told(t, "Create of the file 63", d.Create("a"), p.create("a"))
	told(t, "Remove", d.Remove("a"), p.remove("a"))
	told(t, "Create of the file 64", d.Create("a"), p.create("a"))
	check(t, "64 files", d, p)
	// What was removed can be there still.
	told(t, "Create of one more", d.Create("b"), api.ErrMany)
	told(t, "Create of a name that may not be", d.Create("B"), api.ErrName)
	told(t, "Create of a name that is there", d.Create("a"), api.ErrExist)
	check(t, "one more", d, p)
	told(t, "SyncAll", d.SyncAll(), p.syncAll())
	told(t, "Create behind SyncAll", d.Create("b"), p.create("b"))
	told(t, "Create of one more", d.Create("c"), api.ErrMany)
	ok(t, d.Rename("b", "a"), p.rename("b", "a"))
	told(t, "Create behind Rename", d.Create("c"), api.ErrMany)
	check(t, "Rename", d, p)
	if d.Crash("\x01") != p.crash("\x01") {
		t.Fatal("other choices")
	}
	check(t, "Crash", d, p)
	told(t, "Create behind Crash", d.Create("c"), api.ErrMany)
	ok(t, d.Remove("a"), d.SyncAll(), d.Create("c"))
}

func TestFilesThatACrashTookMakeRoom(t *testing.T) { // P11.2, P11.5
	d := fresh(t, 64)
	for range 3 {
		for i := range 64 {
			ok(t, d.Create(fmt.Sprint(i)), d.Append(fmt.Sprint(i), "x"))
		}
		told(t, "Create", d.Create("a"), api.ErrMany)
		if d.Free() != 0 {
			t.Fatalf("%d sectors are free", d.Free())
		}
		d.Crash("")
		if d.Free() != 64 || len(d.Files()) != 0 {
			t.Fatalf("behind a crash %d sectors are free, %d files are there", d.Free(), len(d.Files()))
		}
	}
}

func TestAppendIsSeenBehindItsBytes(t *testing.T) { // P11.2
	d, p := fresh(t, 20), newPlain(20)
	ok(t, d.Create("a"), p.create("a"), d.Create("b"), p.create("b"))
	for _, s := range []string{"x", "", "\x00", "\xff\x80", numbered(30), zeros(32), numbered(100), "\u20ac"} {
		told(t, "Append", d.Append("a", s), p.append("a", s))
		check(t, "Append", d, p)
		told(t, "Sync", d.Sync("b"), p.sync("b"))
		told(t, "Append", d.Append("b", s+s), p.append("b", s+s))
		check(t, "Append", d, p)
	}
	for _, name := range append(badNames(), "c") {
		told(t, "Append to none", d.Append(name, "x"), api.ErrNone)
		told(t, "Append of too much to none", d.Append(name, zeros(9999)), api.ErrNone)
		check(t, "Append to none", d, p)
	}
}

func TestAppendToAFullDisk(t *testing.T) { // P11.2
	for _, sectors := range []int{1, 2, 3, 4096} {
		d := fresh(t, sectors)
		ok(t, d.Create("a"), d.Create("b"), d.Append("a", numbered(32*sectors-31)), d.Append("b", ""))
		calls := d.Calls()
		for _, s := range []string{zeros(32), zeros(33), zeros(131072), zeros(131073), zeros(1 << 20)} {
			told(t, "Append of too much", d.Append("a", s), api.ErrFull)
			told(t, "Append of too much", d.Append("b", s), api.ErrFull)
		}
		told(t, "Append of a byte to another one", d.Append("b", "x"), api.ErrFull)
		if d.Calls() != calls || d.Free() != 0 {
			t.Fatalf("the fuse was asked %d times, %d sectors are free", d.Calls()-calls, d.Free())
		}
		ok(t, d.Append("b", ""), d.Append("a", zeros(30)), d.Append("a", "\x00"), d.Append("a", ""))
		told(t, "Append of a byte more", d.Append("a", "x"), api.ErrFull)
		files(t, "a full disk", d, "a", numbered(32*sectors-31)+zeros(31), "b", "")
	}
}

func TestSectorsOfWhatIsNotSeenAreTaken(t *testing.T) { // P11.2, P11.4
	d, p := fresh(t, 4), newPlain(4)
	s := numbered(96)
	ok(t, d.Create("a"), p.create("a"), d.Append("a", s), p.append("a", s))
	// As long as the first bytes do not last the others may go at once.
	ok(t, d.Cut("a", 1), p.cut("a", 1))
	check(t, "Cut of what does not last", d, p)
	ok(t, d.Append("a", s[1:]), p.append("a", s[1:]), d.Sync("a"), p.sync("a"), d.SyncAll(), p.syncAll())
	ok(t, d.Cut("a", 1), p.cut("a", 1))
	check(t, "Cut", d, p)
	ok(t, d.Create("b"), p.create("b"))
	told(t, "Append", d.Append("b", s), api.ErrFull)
	ok(t, d.Append("a", s), p.append("a", s))
	told(t, "Append", d.Append("b", "x"), api.ErrFull)
	ok(t, d.Cut("a", 0), p.cut("a", 0), d.Sync("a"), p.sync("a"), d.Append("b", s), p.append("b", s))
	check(t, "Sync behind Cut", d, p)
	ok(t, d.Remove("b"), p.remove("b"))
	check(t, "Remove", d, p)
	ok(t, d.Create("b"), p.create("b"))
	told(t, "Append behind Remove", d.Append("b", s), api.ErrFull)
	ok(t, d.Rename("b", "a"), p.rename("b", "a"))
	told(t, "Append behind Rename", d.Append("a", s), api.ErrFull)
	ok(t, d.SyncAll(), p.syncAll())
	check(t, "SyncAll", d, p)
	ok(t, d.Append("a", s), p.append("a", s))
	check(t, "Append behind SyncAll", d, p)
}

func TestCutLeavesTheFirstBytes(t *testing.T) { // P11.2
	s := numbered(70)
	for _, synced := range []bool{false, true} {
		for n := range len(s) + 1 {
			d := fresh(t, 4)
			ok(t, d.Create("a"), d.Append("a", s))
			if synced {
				ok(t, d.Sync("a"))
			}
			ok(t, d.Cut("a", n))
			files(t, "Cut", d, "a", s[:n])
			for _, m := range append(ends(), -32, -1, n+1, n+32, 70+1) {
				calls := d.Calls()
				told(t, "Cut of what there is not", d.Cut("a", m), api.ErrRange)
				told(t, "Cut of none", d.Cut("b", m), api.ErrNone)
				if d.Calls() != calls {
					t.Fatal("the fuse was asked")
				}
			}
			ok(t, d.Append("a", "z"))
			files(t, "Append behind Cut", d, "a", s[:n]+"z")
		}
	}
}

func TestRenameIsTheFoldersMove(t *testing.T) { // P11.2
	for _, from := range goodNames() {
		for _, to := range goodNames() {
			d, p := loaded(t, 9, api.File{Name: from, Data: "1"}), loadPlain(9, []api.File{{Name: from, Data: "1"}})
			told(t, "Create", d.Create("b"), p.create("b"))
			told(t, "Append", d.Append("b", "2"), p.append("b", "2"))
			told(t, "Rename", d.Rename(from, to), p.rename(from, to))
			check(t, "Rename", d, p)
			for choice := range 5 {
				q := p.copy()
				c := crashed(d, string([]byte{byte(choice), 1, 1}))
				q.crash(string([]byte{byte(choice), 1, 1}))
				check(t, "Crash behind Rename", c, q)
			}
		}
	}
	d, p := loaded(t, 9, many(2, 1)...), loadPlain(9, many(2, 1))
	for _, to := range someNames() {
		for _, from := range append(badNames(), "a", to) {
			told(t, "Rename of none", d.Rename(from, to), api.ErrNone)
		}
	}
	for _, to := range badNames() {
		told(t, "Rename to what may not be", d.Rename("f01", to), api.ErrName)
	}
	check(t, "Renames that are refused", d, p)
}

func TestRenameToItselfDoesNotWait(t *testing.T) { // P11.2
	d := loaded(t, 9, api.File{Name: "a", Data: "1"})
	ok(t, d.Rename("a", "a"), d.Create("b"))
	if d.Calls() != 2 {
		t.Fatalf("%d calls", d.Calls())
	}
	// One change alone waits: choices that are even leave none of it.
	files(t, "Crash", crashed(d, "\x02"), "a", "1")
	files(t, "Crash", crashed(d, "\x01"), "a", "1", "b", "")
}

func TestRemoveTakesTheFile(t *testing.T) { // P11.2
	d, p := loaded(t, 9, many(3, 40)...), loadPlain(9, many(3, 40))
	for _, name := range append(badNames(), "a", "f", "f00") {
		told(t, "Remove of none", d.Remove(name), api.ErrNone)
	}
	check(t, "Remove of none", d, p)
	told(t, "Remove", d.Remove("f02"), p.remove("f02"))
	check(t, "Remove", d, p)
	told(t, "Remove again", d.Remove("f02"), api.ErrNone)
	told(t, "Append", d.Append("f02", "x"), api.ErrNone)
	told(t, "Cut", d.Cut("f02", 0), api.ErrNone)
	told(t, "Sync", d.Sync("f02"), api.ErrNone)
	told(t, "Rename", d.Rename("f02", "a"), api.ErrNone)
	check(t, "what is not there", d, p)
	told(t, "Create", d.Create("f02"), p.create("f02"))
	check(t, "Create behind Remove", d, p)
	for choice := range 4 {
		q := p.copy()
		c := crashed(d, string([]byte{byte(choice)}))
		q.crash(string([]byte{byte(choice)}))
		check(t, "Crash", c, q)
	}
}

func TestSyncIsOfTheBytesAlone(t *testing.T) { // P11.3
	d := fresh(t, 9)
	ok(t, d.Create("a"), d.Append("a", "x"), d.Sync("a"), d.Create("b"), d.Append("b", "y"))
	files(t, "Crash", crashed(d, "\x00\x01"))
	files(t, "Crash that leaves a name", crashed(d, "\x01\x00"), "a", "x")
	files(t, "Crash that leaves both", crashed(d, "\x02\x00"), "a", "x", "b", "")
	for _, name := range append(badNames(), "c") {
		told(t, "Sync of none", d.Sync(name), api.ErrNone)
	}
}

func TestSyncAllIsOfTheFolderAlone(t *testing.T) { // P11.3
	d := fresh(t, 9)
	ok(t, d.Create("a"), d.Append("a", "x"), d.SyncAll())
	files(t, "Crash", crashed(d, ""), "a", "")
	files(t, "Crash", crashed(d, "\x00\x01"), "a", "x")
	ok(t, d.Remove("a"), d.Create("b"), d.SyncAll())
	files(t, "Crash behind Remove and Create", crashed(d, "\x00\x01\x01"), "b", "")
	ok(t, d.SyncAll(), d.SyncAll())
	files(t, "SyncAll again", d, "b", "")
}

func TestSyncOfAFileLetsTheOthers(t *testing.T) { // P11.3
	d := loaded(t, 9, many(3, 1)...)
	for i := range 3 {
		ok(t, d.Append(fmt.Sprintf("f%02d", i+1), "x"))
	}
	ok(t, d.Sync("f02"))
	s := numbered(1)
	files(t, "Crash", crashed(d, ""), "f01", s, "f02", s+"x", "f03", s)
}

func TestListsRise(t *testing.T) { // P11.4
	d := fresh(t, 9)
	for _, name := range []string{"b", "a", "-", "z", "ab", ".", "0", "a-", "a.", "a0"} {
		ok(t, d.Create(name), d.Append(name, ""))
	}
	l, e := d.List()
	if want := []string{"-", ".", "0", "a", "a-", "a.", "a0", "ab", "b", "z"}; e != api.OK || !slices.Equal(l, want) {
		t.Fatalf("List: %q, %s", l, api.Text(e))
	}
}

func TestAnswersAreNewMemory(t *testing.T) { // R3
	d, p := loaded(t, 9, many(3, 5)...), loadPlain(9, many(3, 5))
	for range 2 {
		l, _ := d.List()
		for i := range l[:cap(l)] {
			l[:cap(l)][i] = "changed"
		}
		f := d.Files()
		for i := range f[:cap(f)] {
			f[:cap(f)][i] = api.File{Name: "changed", Data: "changed"}
		}
		check(t, "changed answers", d, p)
	}
}

func TestReadIsWhatIsSeen(t *testing.T) { // P11.4
	d := loaded(t, 9, api.File{Name: "a", Data: "old"})
	ok(t, d.Append("a", " new"))
	if s, e := d.Read("a"); s != "old new" || e != api.OK {
		t.Fatalf("Read: %q, %s", s, api.Text(e))
	}
	ok(t, d.Remove("a"))
	if s, e := d.Read("a"); s != "" || e != api.ErrNone {
		t.Fatalf("Read of what is not seen any more: %q, %s", s, api.Text(e))
	}
}

func TestFaultIsTheFuses(t *testing.T) { // P11.4
	for _, kind := range append(ends(), -1, 0, 1, 2, 3, 4, 5) {
		for _, at := range append(ends(), -2, -1, 0, 1, 2, 3) {
			d, p := loaded(t, 9, many(2, 1)...), loadPlain(9, many(2, 1))
			x := api.Fault{Kind: kind, At: at}
			for _, y := range []api.Fault{{Kind: api.FaultPut, At: 1}, x} {
				told(t, fmt.Sprint("Fault ", y), d.Fault(y), p.fault(y))
				check(t, "Fault", d, p)
			}
			for range 3 {
				told(t, "Append", d.Append("f01", "x"), p.append("f01", "x"))
				told(t, "Sync", d.Sync("f01"), p.sync("f01"))
				check(t, "faults", d, p)
			}
		}
	}
}

// step is a call that changes something, or lets it last, on a disk with the files f01 and f02.
type step struct {
	name string
	kind int
	do   func(*Disk) api.Errno
	same func(*plain) api.Errno
}

// steps are all that ask the fuse.
func steps() []step {
	return []step{
		{"Create", api.FaultPut, func(d *Disk) api.Errno { return d.Create("a") }, func(p *plain) api.Errno { return p.create("a") }},
		{"Append", api.FaultPut, func(d *Disk) api.Errno { return d.Append("f01", "xy") }, func(p *plain) api.Errno { return p.append("f01", "xy") }},
		{"Append of nothing", api.FaultPut, func(d *Disk) api.Errno { return d.Append("f01", "") }, func(p *plain) api.Errno { return p.append("f01", "") }},
		{"Cut", api.FaultPut, func(d *Disk) api.Errno { return d.Cut("f01", 2) }, func(p *plain) api.Errno { return p.cut("f01", 2) }},
		{"Rename", api.FaultPut, func(d *Disk) api.Errno { return d.Rename("f01", "f02") }, func(p *plain) api.Errno { return p.rename("f01", "f02") }},
		{"Rename to itself", api.FaultPut, func(d *Disk) api.Errno { return d.Rename("f01", "f01") }, func(p *plain) api.Errno { return p.rename("f01", "f01") }},
		{"Remove", api.FaultPut, func(d *Disk) api.Errno { return d.Remove("f01") }, func(p *plain) api.Errno { return p.remove("f01") }},
		{"Sync", api.FaultSync, func(d *Disk) api.Errno { return d.Sync("f01") }, func(p *plain) api.Errno { return p.sync("f01") }},
		{"SyncAll", api.FaultSync, func(d *Disk) api.Errno { return d.SyncAll() }, func(p *plain) api.Errno { return p.syncAll() }},
	}
}

// begunDisk is one on which names and bytes wait to last.
func begunDisk(t *testing.T) (*Disk, *plain) {
	t.Helper()
	l := many(2, 40)
	d, p := loaded(t, 9, l...), loadPlain(9, l)
	ok(t, d.Append("f01", "new"), p.append("f01", "new"), d.Create("n"), p.create("n"), d.Rename("n", "m"), p.rename("n", "m"))
	return d, p
}

// leaves holds what all crashes leave against the plain one.
func leaves(t *testing.T, what string, d *Disk, p *plain) {
	t.Helper()
	for choice := range 5 {
		for rest := range 3 {
			choices := string([]byte{byte(choice), byte(rest), byte(2 - rest), byte(rest)})
			c, q := d.Copy(), p.copy()
			if got, want := c.Crash(choices), q.crash(choices); got != want {
				t.Fatalf("%s: Crash(%q): %d, want %d", what, choices, got, want)
			}
			check(t, what+", Crash", c, q)
		}
	}
}

func TestEachStepAsksTheFuseOnce(t *testing.T) { // P11.2, P11.3, P11.4
	for _, x := range steps() {
		d, p := begunDisk(t)
		calls := d.Calls()
		ok(t, x.do(d), x.same(p))
		if d.Calls() != calls+1 {
			t.Fatalf("%s asks the fuse %d times", x.name, d.Calls()-calls)
		}
		check(t, x.name, d, p)
		leaves(t, x.name, d, p)
	}
}

func TestAStepThatFailsChangesNothing(t *testing.T) { // P11.2, P11.3
	for _, x := range steps() {
		for _, kind := range []int{api.FaultPut, api.FaultSync, api.FaultDown} {
			d, p := begunDisk(t)
			ok(t, d.Fault(api.Fault{Kind: kind}), p.fault(api.Fault{Kind: kind}))
			want := api.OK
			if kind == x.kind {
				want = api.ErrIO
			} else if kind == api.FaultDown {
				want = api.ErrDown
			}
			told(t, x.name, x.do(d), want)
			told(t, x.name+" of the plain one", x.same(p), want)
			check(t, x.name, d, p)
			leaves(t, x.name, d, p)
			told(t, x.name+" again", x.do(d), x.same(p))
			check(t, x.name+" again", d, p)
		}
	}
}

func TestWhatIsRefusedDoesNotAskTheFuse(t *testing.T) { // P11.2, P11.3
	for _, kind := range []int{api.NoFault, api.FaultPut, api.FaultSync, api.FaultDown} {
		d, p := begunDisk(t)
		ok(t, d.Fault(api.Fault{Kind: kind}), p.fault(api.Fault{Kind: kind}))
		told(t, "Create", d.Create("A"), api.ErrName)
		told(t, "Create", d.Create("f01"), api.ErrExist)
		told(t, "Append", d.Append("z", "x"), api.ErrNone)
		told(t, "Append", d.Append("f01", zeros(9*32)), api.ErrFull)
		told(t, "Cut", d.Cut("z", 0), api.ErrNone)
		told(t, "Cut", d.Cut("f01", 44), api.ErrRange)
		told(t, "Cut", d.Cut("f01", -1), api.ErrRange)
		told(t, "Rename", d.Rename("z", "A"), api.ErrNone)
		told(t, "Rename", d.Rename("f01", "A"), api.ErrName)
		told(t, "Remove", d.Remove("z"), api.ErrNone)
		told(t, "Sync", d.Sync("z"), api.ErrNone)
		told(t, "Fault", d.Fault(api.Fault{Kind: -1}), api.ErrArg)
		check(t, "what is refused", d, p)
		leaves(t, "what is refused", d, p)
		told(t, "Append", d.Append("f01", "x"), p.append("f01", "x"))
		told(t, "Sync", d.Sync("f01"), p.sync("f01"))
		check(t, "what is not refused", d, p)
	}
}

func TestWithThePowerOff(t *testing.T) { // the chapter's head
	d, p := begunDisk(t)
	ok(t, d.Fault(api.Fault{Kind: api.FaultDown}), p.fault(api.Fault{Kind: api.FaultDown}))
	told(t, "SyncAll", d.SyncAll(), p.syncAll())
	calls := d.Calls()
	for _, name := range append(someNames(), "f01", "z") {
		for _, e := range []api.Errno{d.Create(name), d.Append(name, zeros(9*32)), d.Append(name, ""), d.Cut(name, -1), d.Cut(name, 0), d.Sync(name), d.Rename(name, "A"), d.Rename(name, "a"), d.Remove(name), d.SyncAll()} {
			told(t, name, e, api.ErrDown)
		}
	}
	for kind := -1; kind < 5; kind++ {
		for at := -1; at < 2; at++ {
			told(t, "Fault", d.Fault(api.Fault{Kind: kind, At: at}), api.ErrDown)
		}
	}
	if d.Up() || d.Calls() != calls {
		t.Fatalf("the power is on, or the fuse was asked %d times", d.Calls()-calls)
	}
	check(t, "with the power off", d, p)
	check(t, "a copy with the power off", d.Copy(), p)
	leaves(t, "with the power off", d, p)
	for range 2 {
		if d.Crash("") != p.crash("") || !d.Up() {
			t.Fatal("other choices, or the power is off")
		}
		check(t, "Crash", d, p)
	}
	ok(t, d.Create("a"), d.Append("a", "x"), d.Sync("a"), d.SyncAll())
}

func TestCrashTakesFaultsAway(t *testing.T) { // P11.5
	for kind := 1; kind < 4; kind++ {
		d := loaded(t, 9, many(2, 1)...)
		ok(t, d.Fault(api.Fault{Kind: kind}))
		d.Crash("")
		ok(t, d.Append("f01", "x"), d.Sync("f01"), d.Create("a"), d.SyncAll())
		if d.Calls() != 4 {
			t.Fatalf("%d calls", d.Calls())
		}
	}
}

func TestCallsGoOnBehindACrash(t *testing.T) { // P11.4
	d := fresh(t, 9)
	ok(t, d.Create("a"), d.Sync("a"), d.Fault(api.Fault{Kind: api.FaultDown, At: 1}), d.SyncAll())
	told(t, "SyncAll", d.SyncAll(), api.ErrDown)
	told(t, "SyncAll", d.SyncAll(), api.ErrDown)
	if d.Calls() != 4 || d.Copy().Calls() != 4 {
		t.Fatalf("%d calls", d.Calls())
	}
	d.Crash("")
	ok(t, d.Remove("a"))
	if d.Calls() != 5 {
		t.Fatalf("%d calls behind a crash", d.Calls())
	}
}

func TestTheFolderTakesTheFirstChoice(t *testing.T) { // P11.5
	d := fresh(t, 9)
	ok(t, d.Create("a"), d.Append("a", "x"), d.Rename("a", "b"), d.Create("a"), d.Append("a", "y"))
	// Three changes wait: what the first choice leaves is of modulo 4, not 3.
	for _, x := range []struct {
		choices string
		want    []string
	}{
		{"", nil},
		{"\x00\x01\x01", nil},
		{"\x01\x01\x01", []string{"a", "x"}},
		{"\x02\x01\x01", []string{"b", "x"}},
		{"\x03\x01\x01", []string{"a", "y", "b", "x"}},
		{"\x04\x01\x01", nil},
		{"\xfe\x01\x01", []string{"b", "x"}},
		{"\xff\x01\x01", []string{"a", "y", "b", "x"}},
		{"\x03", []string{"a", "", "b", ""}},
		{"\x03\x01", []string{"a", "", "b", "x"}},
		{"\x03\x00\x01", []string{"a", "y", "b", ""}},
		{"\x03\x02\x01\x02\x02", []string{"a", "y", "b", "\x00"}},
	} {
		c := d.Copy()
		if n := c.Crash(x.choices); n != 3 {
			t.Errorf("Crash(%q): %d", x.choices, n)
		}
		files(t, fmt.Sprintf("Crash(%q)", x.choices), c, x.want...)
	}
}

func TestFilesTakeChoicesByTheirNumbers(t *testing.T) { // P11.5
	d := loaded(t, 9, api.File{Name: "z"}, api.File{Name: "m"})
	ok(t, d.Create("a"), d.SyncAll(), d.Append("a", "3"), d.Append("m", "2"), d.Append("z", "1"))
	files(t, "Crash", crashed(d, "\x00\x01"), "a", "", "m", "", "z", "1")
	files(t, "Crash", crashed(d, "\x00\x00\x01"), "a", "", "m", "2", "z", "")
	files(t, "Crash", crashed(d, "\x00\x00\x00\x01"), "a", "3", "m", "", "z", "")
	// Numbers are not given again: a new file is behind all others.
	ok(t, d.Remove("z"), d.SyncAll(), d.Create("0"), d.SyncAll(), d.Append("0", "4"))
	files(t, "Crash", crashed(d, "\x00\x00\x00\x01"), "0", "4", "a", "", "m", "")
	// Nor does a name that goes from one to another change the order.
	ok(t, d.Rename("a", "y"), d.Rename("m", "a"), d.SyncAll())
	files(t, "Crash", crashed(d, "\x00\x01"), "0", "", "a", "2", "y", "")
}

func TestFilesThatGoTakeChoicesToo(t *testing.T) { // P11.5
	d := loaded(t, 9, api.File{Name: "a", Data: "1"}, api.File{Name: "b", Data: "2"})
	ok(t, d.Append("a", "x"), d.Append("b", "y"), d.Remove("a"), d.Create("c"), d.Append("c", "z"), d.Append("b", numbered(31)))
	// Of a and c one sector is unlike, of b two.
	for _, x := range []struct {
		choices string
		want    []string
	}{
		{"\x00\x01\x01\x01\x01", []string{"a", "1x", "b", "2y" + numbered(31)}},
		{"\x00\x00\x01\x00\x01", []string{"a", "1", "b", "2y" + numbered(30)}},
		{"\x01\x01\x00\x00\x01", []string{"b", "2"}},
		{"\x01\x00\x01\x00\x01", []string{"b", "2y" + numbered(30)}},
		{"\x02\x00\x00\x00\x01", []string{"b", "2", "c", "z"}},
		{"\x02\x01\x01\x01\x00", []string{"b", "2y" + numbered(31), "c", ""}},
	} {
		c := d.Copy()
		if n := c.Crash(x.choices); n != 5 {
			t.Errorf("Crash(%q): %d", x.choices, n)
		}
		files(t, fmt.Sprintf("Crash(%q)", x.choices), c, x.want...)
	}
}

func TestWhatIsRemovedAndLastsIsThereBehindACrash(t *testing.T) { // P11.5
	d := loaded(t, 9, api.File{Name: "a", Data: "1"})
	ok(t, d.Remove("a"), d.Create("a"), d.Append("a", "2"), d.Sync("a"))
	files(t, "ahead", d, "a", "2")
	files(t, "Crash", crashed(d, "\x00"), "a", "1")
	files(t, "Crash", crashed(d, "\x01"))
	files(t, "Crash", crashed(d, "\x02"), "a", "2")
	d = loaded(t, 9, api.File{Name: "a", Data: "1"}, api.File{Name: "b", Data: "2"})
	ok(t, d.Rename("b", "a"))
	files(t, "Crash", crashed(d, "\x00"), "a", "1", "b", "2")
	files(t, "Crash", crashed(d, "\x01"), "a", "2")
}

func TestASecondCrashTakesNothing(t *testing.T) { // P11.5
	r := rand.New(rand.NewSource(5))
	for range 200 {
		d, p := begunDisk(t)
		choices := drawn(r, r.Intn(8))
		d.Crash(choices)
		p.crash(choices)
		for range 3 {
			if n := d.Crash(drawn(r, 6)); n != 1 {
				t.Fatalf("a second crash used %d choices", n)
			}
			check(t, "a second crash", d, p)
		}
	}
}

func TestACopyIsAsItAndAnother(t *testing.T) { // R3, R4
	r := rand.New(rand.NewSource(6))
	for range 300 {
		d, p := fresh(t, 12), newPlain(12)
		for range r.Intn(30) {
			drawnCall(t, r, d, p)
		}
		c, q := d.Copy(), p.copy()
		check(t, "Copy", c, q)
		for range 30 {
			if r.Intn(2) == 0 {
				drawnCall(t, r, d, p)
			} else {
				drawnCall(t, r, c, q)
			}
			check(t, "the disk", d, p)
			check(t, "its copy", c, q)
		}
	}
}

// drawnName is one of few names, seldom one that may not be.
func drawnName(r *rand.Rand) string {
	return []string{"a", "b", "c", "d", "A"}[min(r.Intn(17)/4, 4)]
}

// drawnCall does one call to both.
func drawnCall(t *testing.T, r *rand.Rand, d *Disk, p *plain) string {
	t.Helper()
	name, other := drawnName(r), drawnName(r)
	what := ""
	var got, want any
	switch n := r.Intn(32); {
	case n < 5:
		what, got, want = "Create", d.Create(name), p.create(name)
	case n < 12:
		s := drawn(r, []int{0, 1, r.Intn(32), 32, r.Intn(100), r.Intn(300)}[r.Intn(6)])
		what, got, want = "Append", d.Append(name, s), p.append(name, s)
	case n < 15:
		m := r.Intn(100) - 2
		if f := p.file(name); f != nil && r.Intn(2) == 0 {
			m = len(f.now) - r.Intn(40) + 2
		}
		what, got, want = "Cut", d.Cut(name, m), p.cut(name, m)
	case n < 19:
		what, got, want = "Sync", d.Sync(name), p.sync(name)
	case n < 22:
		what, got, want = "Rename", d.Rename(name, other), p.rename(name, other)
	case n < 24:
		what, got, want = "Remove", d.Remove(name), p.remove(name)
	case n < 27:
		what, got, want = "SyncAll", d.SyncAll(), p.syncAll()
	case n < 29:
		x := api.Fault{Kind: r.Intn(6) - 1, At: r.Intn(12) - 1}
		what, got, want = "Fault", d.Fault(x), p.fault(x)
	default:
		choices := drawn(r, r.Intn(12))
		what, got, want = "Crash", d.Crash(choices), p.crash(choices)
	}
	if got != want {
		t.Fatalf("%s of %q (%q): %v, want %v", what, name, other, got, want)
	}
	return what
}

func TestDisksAreAsThePlainOnes(t *testing.T) { // P11.1 to P11.5, R1
	r := rand.New(rand.NewSource(11))
	for range 400 {
		sectors := 1 + r.Intn(16)
		d, p := fresh(t, sectors), newPlain(sectors)
		for range 80 {
			check(t, drawnCall(t, r, d, p), d, p)
		}
		l := d.Files()
		check(t, "Load of its files", loaded(t, sectors, l...), loadPlain(sectors, l))
	}
}

func TestWhatWasSyncedIsThereBehindACrash(t *testing.T) { // P11.6
	r := rand.New(rand.NewSource(12))
	for _, n := range []int{0, 1, 31, 32, 33, 64, 96, 100} {
		for range 60 {
			d := fresh(t, 200)
			s := numbered(n)
			ok(t, d.Create("kept"), d.Append("kept", s), d.Sync("kept"), d.SyncAll())
			more := n%32 == 0
			for range 20 {
				// Calls of other names, whatever they answer, change nothing of it.
				drawnStep(r, d)
				if more && r.Intn(4) == 0 {
					d.Append("kept", drawn(r, r.Intn(50)))
				}
			}
			d.Crash(drawn(r, r.Intn(40)))
			got, e := d.Read("kept")
			if e != api.OK || !strings.HasPrefix(got, s) || !more && got != s {
				t.Fatalf("%d bytes synced: %q, %s", n, got, api.Text(e))
			}
		}
	}
}

// drawnStep is one call of names that few files have.
func drawnStep(r *rand.Rand, d *Disk) {
	name, other := drawnName(r), drawnName(r)
	switch r.Intn(8) {
	case 0, 1:
		d.Create(name)
	case 2:
		d.Append(name, drawn(r, r.Intn(90)))
	case 3:
		d.Cut(name, r.Intn(40))
	case 4:
		d.Sync(name)
	case 5:
		d.Rename(name, other)
	case 6:
		d.Remove(name)
	case 7:
		d.Fault(api.Fault{Kind: 1 + r.Intn(3), At: r.Intn(20)})
	}
}

func TestWhatDoesNotFillItsLastSectorMayBeLost(t *testing.T) { // P11.6
	s := numbered(40)
	d := loaded(t, 9, api.File{Name: "a", Data: s})
	ok(t, d.Append("a", "z"))
	files(t, "Crash", crashed(d, "\x00\x00"), "a", s)
	files(t, "Crash", crashed(d, "\x00\x01"), "a", s+"z")
	files(t, "Crash", crashed(d, "\x00\x02"), "a", s[:32]+zeros(9))
}

func TestADiskThatNoCallMadeStaysSo(t *testing.T) { // R5, P1, the chapter's head
	var zero Disk
	for _, d := range []*Disk{nil, &zero, new(Disk)} {
		for range 2 {
			for _, name := range append(someNames(), "z") {
				for _, e := range []api.Errno{d.Create(name), d.Append(name, "x"), d.Cut(name, -1), d.Cut(name, 0), d.Sync(name), d.Rename(name, "A"), d.Remove(name), d.SyncAll()} {
					told(t, "a call of a disk that no call made", e, api.ErrMade)
				}
				if s, e := d.Read(name); s != "" || e != api.ErrMade {
					t.Fatalf("Read: %q, %s", s, api.Text(e))
				}
			}
			for kind := -1; kind < 5; kind++ {
				told(t, "Fault", d.Fault(api.Fault{Kind: kind}), api.ErrMade)
			}
			if l, e := d.List(); l != nil || e != api.ErrMade {
				t.Fatalf("List: %q, %s", l, api.Text(e))
			}
			if d.Files() != nil || d.Free() != 0 || d.Up() || d.Calls() != 0 || d.Copy() != nil {
				t.Fatal("a disk that no call made tells something")
			}
			for _, choices := range []string{"", "\x00", "\x01\x01"} {
				if n := d.Crash(choices); n != 0 {
					t.Fatalf("Crash(%q): %d", choices, n)
				}
			}
		}
	}
	if zero.Up() || zero.tapes != nil || zero.names != nil || zero.fails != nil || zero.asked != 0 {
		t.Fatal("a zero value was changed")
	}
}

func TestOnlyTapesThatCanBeThereAreKept(t *testing.T) { // R4, P11.2
	d := fresh(t, 4)
	for i := range 3000 {
		ok(t, d.Create("a"), d.Append("a", numbered(64)), d.Rename("a", "b"), d.Sync("b"))
		if i%2 == 0 {
			ok(t, d.SyncAll(), d.Remove("b"), d.SyncAll())
		} else {
			d.Crash("")
		}
		if d.Free() != 4 || len(d.tapes) != 0 {
			t.Fatalf("round %d: %d sectors are free, %d tapes are kept", i, d.Free(), len(d.tapes))
		}
	}
}
