package folder

import (
	"fmt"
	"maps"
	"math"
	"math/rand"
	"slices"
	"strings"
	"testing"
)

// plain is a folder that keeps what it was behind each change: the first of these lasts, the last one is seen.
type plain struct{ states []map[string]int }

func newPlain() *plain { return &plain{[]map[string]int{{}}} }

func (p *plain) kept() map[string]int { return p.states[0] }

func (p *plain) now() map[string]int { return p.states[len(p.states)-1] }

func (p *plain) change(how func(map[string]int)) {
	next := maps.Clone(p.now())
	how(next)
	p.states = append(p.states, next)
}

func (p *plain) put(name string, id int) bool {
	if _, ok := p.now()[name]; ok {
		return false
	}
	p.change(func(m map[string]int) { m[name] = id })
	return true
}

func (p *plain) drop(name string) bool {
	if _, ok := p.now()[name]; !ok {
		return false
	}
	p.change(func(m map[string]int) { delete(m, name) })
	return true
}

func (p *plain) move(from, to string) bool {
	id, ok := p.now()[from]
	if !ok || from == to {
		return ok
	}
	p.change(func(m map[string]int) {
		delete(m, from)
		m[to] = id
	})
	return true
}

func (p *plain) sync() { p.states = p.states[len(p.states)-1:] }

func (p *plain) crash(choice int) int {
	// Go's own remainder has the sign of what is divided.
	k := choice % len(p.states)
	if k < 0 {
		k += len(p.states)
	}
	p.states = p.states[k : k+1]
	return k
}

func (p *plain) ids() []int {
	var l []int
	for _, m := range p.states {
		for _, id := range m {
			if !slices.Contains(l, id) {
				l = append(l, id)
			}
		}
	}
	slices.Sort(l)
	return l
}

func (p *plain) copy() *plain { return &plain{slices.Clone(p.states)} }

// listed are the names of m, rising byte by byte.
func listed(m map[string]int) []Entry {
	var l []Entry
	for name, id := range m {
		l = append(l, Entry{name, id})
	}
	slices.SortFunc(l, func(a, b Entry) int { return strings.Compare(a.Name, b.Name) })
	return l
}

// someNames are names, those that no file may have among them.
func someNames() []string {
	return []string{"", "a", "b", "ab", "a-", "A", "z", "\x00", "a\x00", "\x7f", "\x80", "\xff", "\xffa", "\u20ac", "log-000001-0002", strings.Repeat("n", 4096)}
}

// someIDs are numbers, those at their ends among them.
func someIDs() []int {
	return []int{0, 1, 2, 3, -1, 64, 1 << 31, 1 << 32, math.MinInt, math.MinInt + 1, math.MaxInt - 1, math.MaxInt}
}

// made is a folder of which the chapter's example speaks: a 1 lasts, Put b 2 and Move b a wait.
func made(t *testing.T) *Folder {
	t.Helper()
	f := New()
	if !f.Put("a", 1) {
		t.Fatal("Put of a: false")
	}
	f.Sync()
	if !f.Put("b", 2) || !f.Move("b", "a") {
		t.Fatal("Put of b, or Move of b to a: false")
	}
	return f
}

// check holds all that a folder tells against the plain one.
func check(t *testing.T, what string, f *Folder, p *plain) {
	t.Helper()
	if f == nil {
		t.Fatalf("%s: no folder", what)
	}
	if got, want := f.Now(), listed(p.now()); !slices.Equal(got, want) {
		t.Fatalf("%s: %v is seen, want %v", what, got, want)
	}
	if got, want := f.Kept(), listed(p.kept()); !slices.Equal(got, want) {
		t.Fatalf("%s: %v lasts, want %v", what, got, want)
	}
	if got, want := f.Waiting(), len(p.states)-1; got != want {
		t.Fatalf("%s: %d wait, want %d", what, got, want)
	}
	if got, want := f.IDs(), p.ids(); !slices.Equal(got, want) {
		t.Fatalf("%s: IDs %v, want %v", what, got, want)
	}
	for _, name := range someNames() {
		id, ok := f.Find(name)
		if want, there := p.now()[name]; id != want || ok != there {
			t.Fatalf("%s: Find(%q): %d, %v, want %d, %v", what, name, id, ok, want, there)
		}
	}
}

func TestANewFolderHasNoNames(t *testing.T) { // P9.1
	f, g := New(), New()
	check(t, "New", f, newPlain())
	f.Put("a", 1)
	check(t, "the other one", g, newPlain())
}

func TestPutIsANameMore(t *testing.T) { // P9.1
	f, p := New(), newPlain()
	for i, name := range someNames() {
		id := someIDs()[i%len(someIDs())]
		if !f.Put(name, id) || !p.put(name, id) {
			t.Fatalf("Put(%q, %d): false", name, id)
		}
		check(t, "Put", f, p)
	}
}

func TestPutOfANameThatIsThereChangesNothing(t *testing.T) { // P9.1
	for _, name := range someNames() {
		f, p := New(), newPlain()
		f.Put(name, 7)
		p.put(name, 7)
		for _, id := range append(someIDs(), 7) {
			if f.Put(name, id) {
				t.Fatalf("Put(%q, %d) of what is there: true", name, id)
			}
			check(t, "Put", f, p)
		}
	}
}

func TestOneNumberMayHaveMoreNames(t *testing.T) { // P9.1
	f := New()
	if !f.Put("a", 1) || !f.Put("b", 1) || !f.Drop("a") {
		t.Fatal("false")
	}
	if id, ok := f.Find("b"); id != 1 || !ok {
		t.Fatalf("Find: %d, %v", id, ok)
	}
}

func TestDropTakesANameThatIsThere(t *testing.T) { // P9.1
	for _, name := range someNames() {
		f, p := New(), newPlain()
		for i, other := range someNames() {
			f.Put(other, i)
			p.put(other, i)
		}
		if !f.Drop(name) || !p.drop(name) {
			t.Fatalf("Drop(%q): false", name)
		}
		check(t, "Drop", f, p)
		if f.Drop(name) {
			t.Fatalf("Drop(%q) again: true", name)
		}
		check(t, "Drop again", f, p)
		if !f.Put(name, 99) || !p.put(name, 99) {
			t.Fatalf("Put(%q) behind Drop: false", name)
		}
		check(t, "Put behind Drop", f, p)
	}
}

func TestDropAndMoveLookAtWhatIsSeenAlone(t *testing.T) { // P9.1
	f := New()
	f.Put("a", 1)
	f.Sync()
	f.Drop("a")
	if f.Drop("a") || f.Move("a", "b") || f.Move("a", "a") {
		t.Fatal("what lasts, and is not seen, is dropped or moved")
	}
	if id, ok := f.Find("a"); id != 0 || ok {
		t.Fatalf("Find of what is not seen: %d, %v", id, ok)
	}
	if f.Waiting() != 1 || !f.Put("a", 2) || f.Waiting() != 2 {
		t.Fatal("what lasts, and is not seen, can't be put")
	}
}

func TestMoveGivesTheNumberAnotherName(t *testing.T) { // P9.1
	for _, from := range someNames() {
		for _, to := range someNames() {
			for _, there := range []bool{false, true} {
				f, p := New(), newPlain()
				f.Put(from, 5)
				p.put(from, 5)
				if there && from != to {
					f.Put(to, 6)
					p.put(to, 6)
				}
				if !f.Move(from, to) || !p.move(from, to) {
					t.Fatalf("Move(%q, %q): false", from, to)
				}
				check(t, "Move", f, p)
			}
		}
	}
}

func TestMoveOfWhatIsNotThereChangesNothing(t *testing.T) { // P9.1
	f, p := New(), newPlain()
	f.Put("there", 1)
	p.put("there", 1)
	for _, from := range someNames() {
		for _, to := range append(someNames(), "there") {
			if f.Move(from, to) {
				t.Fatalf("Move(%q, %q) of what is not there: true", from, to)
			}
			check(t, "Move", f, p)
		}
	}
}

func TestMoveOfANameToItselfDoesNotWait(t *testing.T) { // P9.1
	f := New()
	f.Put("a", 1)
	f.Sync()
	if !f.Move("a", "a") || f.Waiting() != 0 {
		t.Fatalf("Move of a to a: %d wait", f.Waiting())
	}
	if id, ok := f.Find("a"); id != 1 || !ok {
		t.Fatalf("Find: %d, %v", id, ok)
	}
}

func TestAMoveToANameOfTheSameNumberWaits(t *testing.T) { // P9.1
	f := New()
	f.Put("a", 1)
	f.Put("b", 1)
	f.Sync()
	if !f.Move("a", "b") || f.Waiting() != 1 || !slices.Equal(f.Now(), []Entry{{"b", 1}}) {
		t.Fatalf("%d wait, %v is seen", f.Waiting(), f.Now())
	}
}

func TestFindTellsTheNumber(t *testing.T) { // P9.1
	for _, id := range someIDs() {
		f := New()
		if got, ok := f.Find("a"); got != 0 || ok {
			t.Fatalf("Find of what is not there: %d, %v", got, ok)
		}
		f.Put("a", id)
		if got, ok := f.Find("a"); got != id || !ok {
			t.Fatalf("Find: %d, %v, want %d", got, ok, id)
		}
		f.Move("a", "b")
		if got, ok := f.Find("b"); got != id || !ok {
			t.Fatalf("Find behind Move: %d, %v, want %d", got, ok, id)
		}
	}
}

func TestNamesRiseByteByByte(t *testing.T) { // P9.2
	f := New()
	for i, name := range []string{"b", "\xff", "", "a", "\u20ac", "ab", "A", "a-", "\x00"} {
		f.Put(name, i)
	}
	want := []Entry{{"", 2}, {"\x00", 8}, {"A", 6}, {"a", 3}, {"a-", 7}, {"ab", 5}, {"b", 0}, {"\u20ac", 4}, {"\xff", 1}}
	if !slices.Equal(f.Now(), want) || len(f.Kept()) != 0 {
		t.Fatalf("%v is seen, %v lasts", f.Now(), f.Kept())
	}
	f.Sync()
	if !slices.Equal(f.Now(), want) || !slices.Equal(f.Kept(), want) {
		t.Fatalf("behind Sync %v is seen, %v lasts", f.Now(), f.Kept())
	}
}

func TestSyncLetsAllLast(t *testing.T) { // P9.2
	f := made(t)
	if f.Waiting() != 2 || !slices.Equal(f.Kept(), []Entry{{"a", 1}}) {
		t.Fatalf("%d wait, %v lasts", f.Waiting(), f.Kept())
	}
	for range 2 {
		f.Sync()
		if f.Waiting() != 0 || !slices.Equal(f.Kept(), []Entry{{"a", 2}}) || !slices.Equal(f.Now(), f.Kept()) || !slices.Equal(f.IDs(), []int{2}) {
			t.Fatalf("%d wait, %v lasts, IDs %v", f.Waiting(), f.Kept(), f.IDs())
		}
	}
	if n := f.Crash(0); n != 0 || !slices.Equal(f.Now(), []Entry{{"a", 2}}) {
		t.Fatalf("Crash behind Sync: %d, %v", n, f.Now())
	}
}

func TestCrashLetsTheFirstOnesLast(t *testing.T) { // P9.2
	behind := [][]Entry{{{"a", 1}}, {{"a", 1}, {"b", 2}}, {{"a", 2}}}
	for _, x := range []struct{ choice, n int }{
		{0, 0}, {1, 1}, {2, 2}, {3, 0}, {4, 1}, {5, 2}, {6, 0}, {255, 0}, {256, 1},
		{-1, 2}, {-2, 1}, {-3, 0}, {-4, 2}, {-5, 1}, {-6, 0},
		{math.MaxInt, 1}, {math.MaxInt - 1, 0}, {math.MinInt, 1}, {math.MinInt + 1, 2},
	} {
		f := made(t)
		if n := f.Crash(x.choice); n != x.n {
			t.Errorf("Crash(%d): %d, want %d", x.choice, n, x.n)
			continue
		}
		want := behind[x.n]
		if !slices.Equal(f.Now(), want) || !slices.Equal(f.Kept(), want) || f.Waiting() != 0 {
			t.Errorf("behind Crash(%d) %v is seen, %v lasts, %d wait, want %v", x.choice, f.Now(), f.Kept(), f.Waiting(), want)
		}
		for _, choice := range someIDs() {
			if n := f.Crash(choice); n != 0 || !slices.Equal(f.Now(), want) {
				t.Errorf("a second Crash(%d): %d, %v", choice, n, f.Now())
			}
		}
	}
}

func TestTheOthersNeverWere(t *testing.T) { // P9.2
	f := made(t)
	f.Crash(1)
	if !slices.Equal(f.IDs(), []int{1, 2}) || f.Put("b", 3) || !f.Put("c", 3) || !f.Drop("a") {
		t.Fatal("what did not last is there")
	}
	f.Sync()
	if !slices.Equal(f.Kept(), []Entry{{"b", 2}, {"c", 3}}) {
		t.Fatalf("%v lasts", f.Kept())
	}
	f = made(t)
	f.Crash(0)
	if !slices.Equal(f.IDs(), []int{1}) || f.Drop("b") || !f.Put("b", 3) {
		t.Fatal("what did not last is there")
	}
}

func TestIDsAreThoseThatANameCanHaveStill(t *testing.T) { // P9.2
	f := New()
	steps := []struct {
		do   func()
		want []int
	}{
		{func() {}, nil},
		{func() { f.Put("a", 5) }, []int{5}},
		{func() { f.Put("b", -3) }, []int{-3, 5}},
		{func() { f.Put("c", 5) }, []int{-3, 5}},
		{func() { f.Drop("a") }, []int{-3, 5}},
		{func() { f.Drop("b"); f.Drop("c") }, []int{-3, 5}},
		{func() { f.Sync() }, nil},
		{func() { f.Put("a", 9); f.Put("b", 8); f.Sync() }, []int{8, 9}},
		// what lasts under a name counts, though it is not seen any more
		{func() { f.Drop("a") }, []int{8, 9}},
		{func() { f.Move("b", "a") }, []int{8, 9}},
		{func() { f.Put("b", 1); f.Move("b", "a") }, []int{1, 8, 9}},
		{func() { f.Drop("a") }, []int{1, 8, 9}},
		{func() { f.Put("z", 0); f.Crash(4) }, []int{1}},
		{func() { f.Put("y", math.MinInt); f.Put("x", math.MaxInt) }, []int{math.MinInt, 1, math.MaxInt}},
		{func() { f.Crash(0) }, []int{1}},
	}
	for i, s := range steps {
		s.do()
		if got := f.IDs(); !slices.Equal(got, s.want) {
			t.Fatalf("step %d: IDs %v, want %v", i, got, s.want)
		}
	}
}

func TestAMoveIsThereWhollyOrNotAtAll(t *testing.T) { // P9.3
	for _, there := range []bool{false, true} {
		for choice := -9; choice < 9; choice++ {
			f := New()
			f.Put("from", 1)
			if there {
				f.Put("to", 2)
			}
			f.Sync()
			ahead := f.Now()
			if !f.Move("from", "to") || f.Waiting() != 1 {
				t.Fatalf("%d changes wait behind a Move", f.Waiting())
			}
			n := f.Crash(choice)
			if n == 0 && !slices.Equal(f.Now(), ahead) || n == 1 && !slices.Equal(f.Now(), []Entry{{"to", 1}}) || n > 1 {
				t.Fatalf("Crash(%d): %d, %v", choice, n, f.Now())
			}
			if (n == 1) != (choice%2 != 0) || !slices.Equal(f.Kept(), f.Now()) {
				t.Fatalf("Crash(%d): %d, %v lasts", choice, n, f.Kept())
			}
		}
	}
}

func TestMovesThatFollowEachOther(t *testing.T) { // P9.2, P9.3
	for choice := range 5 {
		f := New()
		f.Put("a", 1)
		f.Put("b", 2)
		f.Sync()
		f.Move("a", "c")
		f.Move("b", "a")
		f.Move("c", "b")
		f.Move("b", "d")
		want := [][]Entry{{{"a", 1}, {"b", 2}}, {{"b", 2}, {"c", 1}}, {{"a", 2}, {"c", 1}}, {{"a", 2}, {"b", 1}}, {{"a", 2}, {"d", 1}}}[choice]
		if n := f.Crash(choice); n != choice || !slices.Equal(f.Now(), want) {
			t.Fatalf("Crash(%d): %d, %v, want %v", choice, n, f.Now(), want)
		}
	}
}

// drawnName is one of few names.
func drawnName(r *rand.Rand) string { return someNames()[r.Intn(6)] }

// drawnCall does one call to both, and tells which.
func drawnCall(t *testing.T, r *rand.Rand, f *Folder, p *plain) string {
	t.Helper()
	name, other, id := drawnName(r), drawnName(r), r.Intn(8)-2
	what, got, want := "", any(nil), any(nil)
	switch r.Intn(12) {
	case 0, 1, 2, 3:
		what, got, want = "Put", f.Put(name, id), p.put(name, id)
	case 4, 5:
		what, got, want = "Drop", f.Drop(name), p.drop(name)
	case 6, 7, 8, 9:
		what, got, want = "Move", f.Move(name, other), p.move(name, other)
	case 10:
		what = "Sync"
		f.Sync()
		p.sync()
	case 11:
		choice := []int{r.Intn(20) - 10, int(r.Uint64())}[r.Intn(2)]
		what, got, want = "Crash", f.Crash(choice), p.crash(choice)
	}
	if got != want {
		t.Fatalf("%s(%q, %q or %d): %v, want %v", what, name, other, id, got, want)
	}
	return what
}

func TestFoldersAreAsThePlainOnes(t *testing.T) { // P9.1, P9.2, P9.3, R1
	r := rand.New(rand.NewSource(9))
	for range 300 {
		f, p := New(), newPlain()
		for range 60 {
			check(t, drawnCall(t, r, f, p), f, p)
		}
	}
}

func TestACopyIsAsItAndAnother(t *testing.T) { // R3, the chapter's head
	r := rand.New(rand.NewSource(10))
	for range 200 {
		f, p := New(), newPlain()
		for range r.Intn(12) {
			drawnCall(t, r, f, p)
		}
		g, q := f.Copy(), p.copy()
		check(t, "Copy", g, q)
		for range 12 {
			if r.Intn(2) == 0 {
				check(t, drawnCall(t, r, f, p), f, p)
			} else {
				check(t, drawnCall(t, r, g, q), g, q)
			}
			check(t, "the folder", f, p)
			check(t, "its copy", g, q)
		}
	}
}

func TestChangesOfACopyWaitByThemselves(t *testing.T) { // R3
	f := New()
	for i := range 5 {
		f.Put(fmt.Sprint(i), i)
	}
	g, h := f.Copy(), f.Copy()
	f.Put("f", 10)
	g.Put("g", 11)
	h.Put("h", 12)
	for _, x := range []struct {
		f  *Folder
		id int
	}{{f, 10}, {g, 11}, {h, 12}} {
		if n := x.f.Crash(6); n != 6 || !slices.Equal(x.f.IDs(), []int{0, 1, 2, 3, 4, x.id}) {
			t.Fatalf("Crash: %d, IDs %v, want %d among them", n, x.f.IDs(), x.id)
		}
	}
}

func TestACopyOfAnEmptyFolderIsAFolder(t *testing.T) { // the chapter's head
	f := New().Copy()
	check(t, "Copy", f, newPlain())
	if !f.Put("a", 1) || f.Copy().Copy() == nil {
		t.Fatal("no folder")
	}
	f.Crash(0)
	if !f.Put("a", 1) {
		t.Fatal("Put behind a Crash that left no names: false")
	}
}

func TestAnswersAreNewMemory(t *testing.T) { // R3
	f, p := made(t), newPlain()
	p.put("a", 1)
	p.sync()
	p.put("b", 2)
	p.move("b", "a")
	for range 2 {
		now, kept, ids := f.Now(), f.Kept(), f.IDs()
		for _, l := range [][]Entry{now[:cap(now)], kept[:cap(kept)]} {
			for i := range l {
				l[i] = Entry{"changed", 77}
			}
		}
		if slices.ContainsFunc(f.Now(), func(e Entry) bool { return e.ID == 77 }) {
			t.Fatal("lists share memory")
		}
		ids = ids[:cap(ids)]
		for i := range ids {
			ids[i] = 77
		}
		check(t, "behind changed answers", f, p)
	}
}

func TestAFolderThatNoCallMadeStaysEmpty(t *testing.T) { // R5, P1
	var zero Folder
	for _, f := range []*Folder{nil, &zero, new(Folder)} {
		empty := func(what string) {
			t.Helper()
			if len(f.Now()) != 0 || len(f.Kept()) != 0 || f.Waiting() != 0 || len(f.IDs()) != 0 || f.Copy() != nil {
				t.Fatalf("behind %s: a folder that no call made is not empty", what)
			}
			for _, name := range someNames() {
				if id, ok := f.Find(name); id != 0 || ok {
					t.Fatalf("behind %s: Find(%q): %d, %v", what, name, id, ok)
				}
			}
		}
		for range 2 {
			empty("nothing")
			for _, name := range someNames() {
				if f.Put(name, 1) || f.Drop(name) || f.Move(name, "b") || f.Move(name, name) {
					t.Fatalf("%q of a folder that no call made: true", name)
				}
				empty("a change")
			}
			f.Sync()
			empty("Sync")
			for _, choice := range someIDs() {
				if n := f.Crash(choice); n != 0 {
					t.Fatalf("Crash(%d) of a folder that no call made: %d", choice, n)
				}
				empty("Crash")
				if f.Put("a", 1) {
					t.Fatal("Put behind Crash of a folder that no call made: true")
				}
			}
		}
	}
}

func TestEveryCallTellsTheSameAgain(t *testing.T) { // R4
	r := rand.New(rand.NewSource(11))
	for range 50 {
		f, p := New(), newPlain()
		for range 30 {
			drawnCall(t, r, f, p)
		}
		for range 10 {
			g := f.Copy()
			if !slices.Equal(f.Now(), g.Now()) || !slices.Equal(f.Kept(), g.Kept()) || !slices.Equal(f.IDs(), g.IDs()) {
				t.Fatal("not the same again")
			}
			check(t, "again", f, p)
		}
	}
}

func TestMoreNamesThanADiskHas(t *testing.T) { // P9.1, P9.2
	const n = 5000
	f := New()
	for i := range n {
		if !f.Put(fmt.Sprintf("%05d", i), n-i) {
			t.Fatalf("Put %d: false", i)
		}
	}
	if f.Waiting() != n || len(f.Now()) != n || len(f.Kept()) != 0 || len(f.IDs()) != n {
		t.Fatal("names lack")
	}
	if got := f.Crash(n / 2); got != n/2 || len(f.Now()) != n/2 || f.Now()[n/2-1] != (Entry{"02499", n - 2499}) {
		t.Fatalf("Crash: %d, %d names", got, len(f.Now()))
	}
	if ids := f.IDs(); len(ids) != n/2 || ids[0] != n-2499 || ids[n/2-1] != n {
		t.Fatalf("%d IDs", len(ids))
	}
}
