package book_test

import (
	"fmt"
	"math"
	"slices"
	"strings"
	"testing"

	"hocket/api"
	"hocket/book"
	"hocket/mach"
)

// The bounds, as the document lays them: reach is how far beyond what is whole an entry may stand, most how many numbers that are missing are told at once, mostIndex the greatest index of a state, highest the greatest number that a window begins from, top the greatest number of an entry.
const (
	reach     = 64
	most      = 8
	mostIndex = 1 << 39
	highest   = 1 << 40
	top       = 1 << 30
)

// b is a text as bytes.
func b(s string) []byte { return []byte(s) }

// ent is an entry.
func ent(sess, seq int, c api.Cmd) api.Entry {
	return api.Entry{Sess: sess, Seq: seq, Cmd: c}
}

// push is a command that lays s into the queue.
func push(s string) api.Cmd {
	return api.Cmd{Kind: api.CPush, Val: b(s)}
}

// write is an entry of session 1 that is n as its Seq, and in what it writes.
func write(n int) api.Entry {
	return ent(1, max(n, 1), api.Cmd{Kind: api.CWrite, Val: b(fmt.Sprint(n % 1000000))})
}

// told is anything as a text, in which nil is an empty list.
func told(x any) string { return fmt.Sprintf("%v", x) }

// dice answers numbers below what is asked, the same of the same seed.
func dice(seed int) func(below int) int {
	x := uint32(seed)*2654435761 + 1
	return func(below int) int {
		x = x*1664525 + 1013904223
		return int(x>>8) % below
	}
}

// log answers so many entries of some sessions, the same of the same seed: some are asked again, some are behind, some have no number, and there may be more sessions than a table holds.
func log(seed, many int) []api.Entry {
	next := dice(seed)
	at := map[int]int{}
	var l []api.Entry
	for range many {
		s := next(4 + seed%8)
		seq := max(0, at[s]+next(5)-1)
		at[s] = max(at[s], seq)
		word := func(most int) []byte { return slices.Repeat([]byte{byte('a' + next(5))}, next(most+1)) }
		l = append(l, ent(s, seq, api.Cmd{Kind: next(13), Who: next(8) * 143, Key: word(9), Val: word(17), Old: word(2)}))
	}
	return l
}

// small is a machine of which each part has something.
func small() api.Machine {
	return api.Machine{
		Objects: api.Objects{Reg: b("reg"), Queue: [][]byte{b("q"), b(""), b("w")}, Lock: []int{7, 999, 0}, Map: []api.Pair{{Key: b(""), Val: b("v")}, {Key: b("k"), Val: b("w")}}},
		Table:   []api.Last{{Sess: 1, Seq: 300, Result: api.Result{Err: 3, Val: b("r"), N: 4}}, {Sess: 5, Seq: 6, Result: api.Result{N: -1}}},
	}
}

// does is what l makes of m, and what each entry is answered, as Dones of the indexes behind at.
func does(m api.Machine, at int, l []api.Entry) (api.Machine, []api.Done) {
	var dones []api.Done
	for i, e := range l {
		var r api.Result
		m, r = mach.Step(m, e)
		dones = append(dones, api.Done{Index: at + 1 + i, Entry: e, Result: r})
	}
	return m, dones
}

// model is a book word by word of promise 16.1: a table of entries, asked number by number.
type model struct {
	m     api.Machine
	at    int
	there map[int]api.Entry
}

func (m *model) whole() int {
	n := m.at
	for m.has(n + 1) {
		n++
	}
	return n
}

func (m *model) has(i int) bool {
	_, ok := m.there[i]
	return ok
}

func (m *model) add(i int, e api.Entry) bool {
	if i <= m.at || i > m.whole()+reach || m.has(i) {
		return false
	}
	m.there[i] = e
	return true
}

func (m *model) missing(top int) []int {
	var l []int
	for i := m.whole() + 1; i <= top && len(l) < most; i++ {
		if !m.has(i) {
			l = append(l, i)
		}
	}
	return l
}

func (m *model) apply(to int) []api.Done {
	var l []api.Entry
	for i := m.at + 1; i <= min(to, m.whole()); i++ {
		l = append(l, m.there[i])
	}
	next, dones := does(m.m, m.at, l)
	for range l {
		m.at++
		delete(m.there, m.at)
	}
	m.m = next
	return dones
}

func (m *model) state() api.State {
	s := api.State{At: m.at, Machine: m.m}
	for i := m.at + 1; m.has(i); i++ {
		s.Rest = append(s.Rest, m.there[i])
	}
	return s
}

func (m *model) load(s api.State) {
	*m = model{m: s.Machine, at: min(max(s.At, 0), highest), there: map[int]api.Entry{}}
	for i, e := range s.Rest {
		m.there[m.at+1+i] = e
	}
}

// compare ends the test where k answers otherwise than its model.
func compare(t *testing.T, k *book.Book, m *model) {
	t.Helper()
	whole := m.whole()
	if k.At() != m.at || k.Whole() != whole || !mach.Same(k.Machine(), m.m) {
		t.Fatalf("At %d, Whole %d, %v, not %d, %d, %v", k.At(), k.Whole(), k.Machine(), m.at, whole, m.m)
	}
	if got, want := told(k.State()), told(m.state()); got != want {
		t.Fatalf("State is %s, not %s", got, want)
	}
	for _, to := range []int{math.MinInt, -1, 0, m.at, whole - 1, whole, whole + 1, whole + 7, whole + 8, whole + 9, whole + 63, whole + 64, whole + 65, math.MaxInt} {
		if got, want := k.Missing(to), m.missing(to); !slices.Equal(got, want) {
			t.Fatalf("Missing(%d) is %d, not %d", to, got, want)
		}
	}
	for i := m.at - 2; i <= whole+reach+2; i++ {
		if e, ok := k.Get(i); ok != m.has(i) || !mach.SameEntry(e, m.there[i]) {
			t.Fatalf("Get(%d) is %v, %v, not %v, %v", i, e, ok, m.there[i], m.has(i))
		}
	}
}

// begun is a book that holds s, and its model.
func begun(s api.State) (*book.Book, *model) {
	k, m := book.New(), &model{}
	k.Load(s)
	m.load(s)
	return k, m
}

// filled is a book that has nothing but writes at at.
func filled(t *testing.T, at ...int) *book.Book {
	t.Helper()
	k := book.New()
	for _, i := range at {
		if !k.Add(i, write(i)) {
			t.Fatalf("%d can't be added", i)
		}
	}
	return k
}

// 16.1: a new book has nothing, and the first entry has the index 1.
func TestNew(t *testing.T) {
	k := book.New()
	compare(t, k, &model{there: map[int]api.Entry{}})
	if k.At() != 0 || k.Whole() != 0 || told(k.State()) != told(api.State{}) || len(k.Apply(math.MaxInt)) != 0 {
		t.Error(k.At(), k.Whole(), k.State())
	}
	if !slices.Equal(k.Missing(5), []int{1, 2, 3, 4, 5}) || !slices.Equal(k.Missing(1000), []int{1, 2, 3, 4, 5, 6, 7, 8}) {
		t.Error(k.Missing(5), k.Missing(1000))
	}
	if k.Add(0, write(1)) || !k.Add(1, write(1)) || k.Whole() != 1 {
		t.Error(k.Whole())
	}
}

// 16.1: a book that is known, from its first entry on.
func TestKnown(t *testing.T) {
	k := book.New()
	pop, again := ent(3, 1, api.Cmd{Kind: api.CPop}), ent(2, 1, push("b"))
	for i, e := range []api.Entry{ent(2, 1, push("a")), again, pop, ent(3, 2, api.Cmd{Kind: api.CPop}), ent(0, 1, push("c")), ent(3, 1, push("c")), ent(4, 1, api.Cmd{})} {
		if !k.Add(i+1, e) || k.Whole() != i+1 || k.At() != 0 {
			t.Fatal(i, k.Whole())
		}
	}
	want := []api.Done{
		{Index: 1, Entry: ent(2, 1, push("a")), Result: api.Result{N: 1}},
		// What is asked again is answered as it was, whatever is asked then.
		{Index: 2, Entry: again, Result: api.Result{N: 1}},
		{Index: 3, Entry: pop, Result: api.Result{Val: b("a")}},
		{Index: 4, Entry: ent(3, 2, api.Cmd{Kind: api.CPop}), Result: api.Result{Err: api.ErrEmpty}},
		{Index: 5, Entry: ent(0, 1, push("c")), Result: api.Result{Err: api.ErrSeq}},
		{Index: 6, Entry: ent(3, 1, push("c")), Result: api.Result{Err: api.ErrOld}},
		{Index: 7, Entry: ent(4, 1, api.Cmd{}), Result: api.Result{Err: api.ErrCmd}},
	}
	if got := k.Apply(3); told(got) != told(want[:3]) || k.At() != 3 || k.Whole() != 7 || len(k.Machine().Objects.Queue) != 0 || len(k.Machine().Table) != 2 {
		t.Error(got, k.At(), k.Whole(), k.Machine())
	}
	if got := k.Apply(100); told(got) != told(want[3:]) || k.At() != 7 || k.Whole() != 7 || len(k.Machine().Table) != 3 {
		t.Error(got, k.At(), k.Whole(), k.Machine())
	}
	if s := k.State(); s.At != 7 || len(s.Rest) != 0 || !mach.Same(s.Machine, k.Machine()) {
		t.Error(s)
	}
}

// 16.1: what is at At or below, above Whole and 64, or there already is not added, and all stays as it was.
func TestAddRefused(t *testing.T) {
	for _, at := range []int{0, 1, 50, 300, mostIndex} {
		k, m := begun(api.State{At: at, Machine: small()})
		for _, d := range []int{1, 2, 3, 5, 9, 66, 67} {
			if !k.Add(at+d, write(d)) || !m.add(at+d, write(d)) {
				t.Fatalf("at %d: %d can't be added", at, d)
			}
		}
		for _, i := range []int{at, at - 1, at - 64, 0, -1, math.MinInt, at + 1, at + 3, at + 5, at + 67, at + 68, at + 69, at + 200, 1 << 50, math.MaxInt} {
			if k.Add(i, write(99)) {
				t.Errorf("at %d: %d is added", at, i)
			}
			compare(t, k, m)
		}
	}
}

// 16.1: Add reaches as far as Whole and 64, whatever was applied; what was applied, or was loaded as applied, can't be added again.
func TestAddReach(t *testing.T) {
	for _, n := range []int{0, 1, 2, 63, 64, 65, 200} {
		for applied := 0; applied <= n; applied += 1 + n/3 {
			k := book.New()
			for i := range n {
				k.Add(i+1, write(i+1))
			}
			k.Apply(applied)
			for i := range n + 1 {
				if k.Add(i, write(9)) {
					t.Errorf("of %d, %d applied: %d is added again", n, applied, i)
				}
			}
			if k.Add(n+reach+1, write(9)) || !k.Add(n+reach, write(9)) || k.Whole() != n || k.At() != applied {
				t.Errorf("of %d, %d applied: At %d, Whole %d", n, applied, k.At(), k.Whole())
			}
		}
	}
}

// 16.1: an entry is there from Add until it is applied, whatever it says, also where it says nothing; of what is not there the zero entry is told.
func TestGet(t *testing.T) {
	k := book.New()
	far := b(strings.Repeat("x", 100))
	l := []api.Entry{{}, ent(-1, math.MinInt, api.Cmd{Kind: math.MaxInt, Who: -5, Key: far, Val: far, Old: far}), ent(top+1, 0, api.Cmd{}), write(1), ent(1, 1, api.Cmd{Kind: api.CCas, Who: 3, Key: b("k"), Val: b("v"), Old: b("o")})}
	for i, e := range l {
		at := 2*i + 2
		if _, ok := k.Get(at); ok || !k.Add(at, e) || k.Add(at, e) {
			t.Errorf("%d is added another time, or not at all", at)
		}
		if got, ok := k.Get(at); !ok || told(got) != told(e) || !mach.SameEntry(got, e) {
			t.Errorf("%d is %v, %v, not %v", at, got, ok, e)
		}
	}
	for _, i := range []int{math.MinInt, -1, 0, 1, 3, 5, 11, 64, 65, 1 << 40, math.MaxInt} {
		if got, ok := k.Get(i); ok || told(got) != told(api.Entry{}) {
			t.Errorf("%d is %v, %v", i, got, ok)
		}
	}
	k.Add(1, write(1))
	k.Apply(1)
	if got, ok := k.Get(1); ok || told(got) != told(api.Entry{}) {
		t.Error("what is applied is there", got, ok)
	}
	if got, ok := k.Get(2); !ok || told(got) != told(api.Entry{}) {
		t.Error("what is not applied is gone", got, ok)
	}
}

// 16.1: the first 8 above Whole that are missing are told, up to top and with it, also those above all that is there.
func TestMissing(t *testing.T) {
	k := filled(t, 1, 2, 5, 7, 8, 12, 66)
	all := []int{3, 4, 6, 9, 10, 11, 13, 14}
	for to := -70; to < 300; to++ {
		want, _ := slices.BinarySearch(all, to+1)
		if got := k.Missing(to); !slices.Equal(got, all[:want]) {
			t.Errorf("Missing(%d) is %d, not %d", to, got, all[:want])
		}
	}
	for _, to := range []int{math.MinInt, math.MinInt + 1, -1 << 40} {
		if got := k.Missing(to); len(got) != 0 {
			t.Errorf("Missing(%d) is %d", to, got)
		}
	}
	for _, to := range []int{1 << 40, 1 << 62, math.MaxInt - 1, math.MaxInt} {
		if got := k.Missing(to); !slices.Equal(got, all) {
			t.Errorf("Missing(%d) is %d", to, got)
		}
	}
	// Of one that has all that it can have, but the first, the next are as far as it reaches, and beyond.
	k = book.New()
	for i := 2; i <= reach; i++ {
		k.Add(i, write(i))
	}
	if got := k.Missing(math.MaxInt); !slices.Equal(got, []int{1, 65, 66, 67, 68, 69, 70, 71}) {
		t.Error(got)
	}
	if got := k.Missing(reach); !slices.Equal(got, []int{1}) {
		t.Error(got)
	}
	k.Add(1, write(1))
	for applied := range reach + 1 {
		k.Apply(applied)
		if got := k.Missing(66); !slices.Equal(got, []int{65, 66}) || len(k.Missing(64)) != 0 {
			t.Errorf("%d applied: %d", applied, got)
		}
	}
}

// 16.1: Apply goes as far as the lesser of to and Whole, and not beyond a hole; what is at At or below is not applied again.
func TestApply(t *testing.T) {
	for _, first := range []int{0, 1, 4} {
		for to := -3; to < 20; to++ {
			k := filled(t, 1, 2, 3, 4, 5, 6, 8, 9, 12)
			k.Apply(first)
			got := k.Apply(to)
			end := max(first, min(to, 6))
			if len(got) != end-first || k.At() != end || k.Whole() != 6 || len(k.State().Rest) != 6-end {
				t.Fatalf("from %d up to %d: %v, At %d", first, to, got, k.At())
			}
			for i, d := range got {
				if n := first + 1 + i; told(d) != told(api.Done{Index: n, Entry: write(n)}) {
					t.Errorf("from %d up to %d: %v", first, to, d)
				}
			}
			reg := ""
			if end > 0 {
				reg = string(write(end).Cmd.Val)
			}
			if m := k.Machine(); string(m.Objects.Reg) != reg || len(m.Table) != min(end, 1) {
				t.Errorf("from %d up to %d: %v", first, to, m)
			}
			if _, ok := k.Get(8); !ok {
				t.Errorf("from %d up to %d: what is behind the hole is gone", first, to)
			}
		}
	}
	for _, to := range []int{math.MinInt, -1 << 40, 1 << 40, math.MaxInt} {
		k := filled(t, 1, 2, 4)
		if got := k.Apply(to); len(got) != 0 && to < 0 || len(got) != 2 && to > 0 || k.At() != len(got) {
			t.Errorf("up to %d: %v", to, got)
		}
	}
}

// 16.1: entries are applied one by one: it makes no difference at how many turns.
func TestApplyInTurns(t *testing.T) {
	for seed := range 24 {
		l := log(seed, 120)
		m, want := does(api.Machine{}, 0, l)
		for _, turn := range []int{1, 2, 7, 64, 120} {
			k := book.New()
			var got []api.Done
			for i, e := range l {
				if !k.Add(i+1, e) {
					t.Fatal(i)
				}
				if i%turn == 0 {
					got = append(got, k.Apply(i+1)...)
				}
			}
			got = append(got, k.Apply(len(l))...)
			if told(got) != told(want) || !mach.Same(k.Machine(), m) || k.At() != len(l) {
				t.Fatalf("%d, at turns of %d: %v, not %v", seed, turn, got, want)
			}
		}
	}
}

// 16.1: State is At, the machine, and the entries up to Whole alone, however many they are.
func TestState(t *testing.T) {
	for _, n := range []int{0, 1, 2, 63, 64, 65, 130} {
		k, m := begun(api.State{At: 40, Machine: small()})
		for i := range n {
			k.Add(41+i, write(i+301))
			m.add(41+i, write(i+301))
		}
		for _, d := range []int{2, 3, 64} {
			k.Add(40+n+d, write(9))
			m.add(40+n+d, write(9))
		}
		for applied := 40; applied <= 40+n; applied += 1 + n/4 {
			k.Apply(applied)
			m.apply(applied)
			s := k.State()
			if s.At != applied || len(s.Rest) != 40+n-applied || told(s) != told(m.state()) || !mach.Same(s.Machine, k.Machine()) {
				t.Fatalf("of %d up to %d: %v", n, applied, s)
			}
			compare(t, k, m)
		}
	}
}

// states are such as a book can be loaded with: within the bounds of a state, at them, and with more Rest than that.
func states() []api.State {
	l := []api.State{{}, {At: 1}, {At: 300, Machine: small()}, {Rest: log(1, 1)}, {At: mostIndex}, {At: mostIndex - 64, Machine: small(), Rest: log(2, 64)}, {Rest: make([]api.Entry, 3)}, {At: 7, Rest: log(6, 65)}, {At: 7, Machine: small(), Rest: log(7, 500)}}
	for n := 2; n <= 64; n += 7 {
		l = append(l, api.State{At: 100 * n, Machine: small(), Rest: log(n, n)})
	}
	return l
}

// 16.1: a book that is loaded is that, whatever it was, and has nothing else.
func TestLoad(t *testing.T) {
	for i, s := range states() {
		for _, was := range states() {
			k, m := begun(was)
			for _, d := range []int{1, 2, 3, 5, 64} {
				k.Add(k.Whole()+d, write(d))
			}
			k.Apply(was.At + 2)
			k.Load(s)
			m.load(s)
			if k.At() != s.At || k.Whole() != s.At+len(s.Rest) || told(k.State()) != told(s) {
				t.Fatalf("%d: At %d, Whole %d, %v, not %v", i, k.At(), k.Whole(), k.State(), s)
			}
			compare(t, k, m)
		}
	}
}

// 16.1: what a book has beyond its Whole is gone when it is loaded with its own State, and can be added anew; what it has up to there stays.
func TestLoadItsOwn(t *testing.T) {
	k := filled(t, 1, 2, 3, 4, 6, 7, 68)
	k.Apply(2)
	s := k.State()
	k.Load(s)
	if told(k.State()) != told(s) || k.At() != 2 || k.Whole() != 4 || !slices.Equal(k.Missing(8), []int{5, 6, 7, 8}) {
		t.Error(k.State(), k.Missing(8))
	}
	for _, i := range []int{6, 7, 68} {
		if e, ok := k.Get(i); ok || told(e) != told(api.Entry{}) {
			t.Errorf("%d is %v, %v", i, e, ok)
		}
		if !k.Add(i, write(1000+i)) {
			t.Errorf("%d can't be added", i)
		}
	}
	if !k.Add(5, write(5)) || k.Whole() != 7 {
		t.Error(k.Whole())
	}
	got := k.Apply(7)
	if len(got) != 5 || got[0].Index != 3 || told(got[3].Entry) != told(write(1006)) || got[4].Index != 7 {
		t.Error(got)
	}
}

// 16.1: a book goes on from what it is loaded with: its Rest is applied, and what comes behind.
func TestLoadGoesOn(t *testing.T) {
	for i, s := range states() {
		k, m := begun(s)
		more := log(i+50, 20)
		for n, e := range more {
			if at := s.At + len(s.Rest) + 1 + n; !k.Add(at, e) || !m.add(at, e) {
				t.Fatalf("%d: %d can't be added", i, at)
			}
		}
		end, want := does(s.Machine, s.At, slices.Concat(s.Rest, more))
		if got := k.Apply(math.MaxInt); told(got) != told(want) || !mach.Same(k.Machine(), end) || k.At() != s.At+len(want) || k.Whole() != k.At() {
			t.Fatalf("%d: %v, not %v", i, got, want)
		}
		m.apply(math.MaxInt)
		compare(t, k, m)
	}
}

// 16.1, 16.3: an index that no state has is held as a window holds it, and the book goes on from there.
func TestLoadBeyond(t *testing.T) {
	for _, x := range []struct{ at, want int }{
		{math.MinInt, 0}, {-highest, 0}, {-1, 0}, {mostIndex + 1, mostIndex + 1}, {highest - 1, highest - 1}, {highest, highest}, {highest + 1, highest}, {math.MaxInt - 1, highest}, {math.MaxInt, highest},
	} {
		k, m := begun(api.State{At: x.at, Machine: small(), Rest: log(3, 3)})
		if k.At() != x.want || k.Whole() != x.want+3 || k.State().At != x.want {
			t.Errorf("%d: At %d, Whole %d", x.at, k.At(), k.Whole())
		}
		compare(t, k, m)
		if got, want := k.Apply(math.MaxInt), m.apply(math.MaxInt); told(got) != told(want) || len(got) != 3 {
			t.Errorf("%d: %v, not %v", x.at, got, want)
		}
		compare(t, k, m)
	}
}

// 16.1, rule 1: nil and an empty list are the same.
func TestEmptyLists(t *testing.T) {
	empty := api.State{At: 3, Machine: api.Machine{Objects: api.Objects{Reg: b(""), Queue: [][]byte{}, Lock: []int{}, Map: []api.Pair{}}, Table: []api.Last{}}, Rest: []api.Entry{}}
	k, _ := begun(empty)
	x, _ := begun(api.State{At: 3})
	k.Add(4, ent(1, 1, api.Cmd{Kind: api.CWrite, Key: b(""), Val: b(""), Old: b("")}))
	x.Add(4, ent(1, 1, api.Cmd{Kind: api.CWrite}))
	if told(k.State()) != told(x.State()) || told(k.Apply(4)) != told(x.Apply(4)) || !mach.Same(k.Machine(), x.Machine()) {
		t.Error(k.State(), x.State())
	}
}

// 16.1, rule 6: a book is its own, and the same acts do the same.
func TestBooksApart(t *testing.T) {
	k, x := filled(t, 1, 2, 4), filled(t, 4, 2, 1)
	if told(k.State()) != told(x.State()) || told(k.Apply(2)) != told(x.Apply(2)) {
		t.Error(k.State(), x.State())
	}
	k.Add(3, write(3))
	k.Apply(4)
	y := book.New()
	if x.At() != 2 || x.Whole() != 2 || y.At() != 0 || len(y.Machine().Table) != 0 {
		t.Error(x.At(), x.Whole(), y.State())
	}
	y.Load(k.State())
	y.Add(5, write(5))
	y.Apply(5)
	if k.At() != 4 || k.Whole() != 4 || string(k.Machine().Objects.Reg) != "4" {
		t.Error(k.State())
	}
}

// 16.1, 16.3: a book that goes along for long answers in time, and right to the end.
func TestLongBook(t *testing.T) {
	k := book.New()
	const n = 50000
	done := 0
	for i := 1; i <= n; i += 2 {
		if !k.Add(i+1, write(i+1)) || !k.Add(i, write(i)) || k.Whole() != i+1 {
			t.Fatal(i)
		}
		for _, d := range k.Apply(i - 40) {
			done++
			if d.Index != done || !mach.SameEntry(d.Entry, write(done)) {
				t.Fatal(d, done)
			}
		}
	}
	if len(k.Missing(n)) != 0 || len(k.State().Rest) != n-done || k.At() != done {
		t.Error(k.At(), done)
	}
	k.Load(api.State{Rest: make([]api.Entry, n)})
	if k.Whole() != n || len(k.State().Rest) != n || len(k.Apply(n)) != n || k.At() != n {
		t.Error(k.At(), k.Whole())
	}
}

// act does with both what three bytes ask for, and ends the test where they answer otherwise.
func act(t *testing.T, k *book.Book, m *model, kind, at, n byte) {
	t.Helper()
	near := m.at + int(at)%140 - 4
	whole := m.whole()
	edges := []int{math.MinInt, -highest, -1, 0, m.at - 1, m.at, m.at + 1, whole - 1, whole, whole + 1, whole + reach, whole + reach + 1, highest, highest + 65, math.MaxInt - 1, math.MaxInt}
	far := edges[int(at)%len(edges)]
	e := log(int(n), 3)[2]
	add := func(i int) {
		if got, want := k.Add(i, e), m.add(i, e); got != want {
			t.Fatalf("Add(%d) is %v", i, got)
		}
	}
	apply := func(to int) {
		if got, want := told(k.Apply(to)), told(m.apply(to)); got != want {
			t.Fatalf("Apply(%d) is %s, not %s", to, got, want)
		}
	}
	switch kind % 10 {
	case 0, 1, 2, 3:
		add(near)
	case 4:
		add(far)
	case 5, 6:
		// What comes next, so that books get long and whole.
		add(whole + 1)
	case 7:
		apply(near)
	case 8:
		apply(far)
	case 9:
		s := k.State()
		if n%4 == 0 {
			s = api.State{At: far, Machine: small(), Rest: log(int(n), int(at)%70)}
		}
		k.Load(s)
		m.load(s)
	}
}

// 16.1 to 16.3: whatever is done in whatever order, the book is its model.
func TestAnyActs(t *testing.T) {
	for seed := range 8 {
		next := dice(seed)
		k, m := begun(states()[seed])
		for range 300 {
			act(t, k, m, byte(next(256)), byte(next(256)), byte(next(256)))
			compare(t, k, m)
		}
	}
}

// 16.3: no number, entry or state that is handed in makes a call panic, and a book that had them goes on.
func TestNoPanic(t *testing.T) {
	far := b(strings.Repeat("x", 1000))
	odd := []api.Entry{{}, ent(math.MinInt, math.MaxInt, api.Cmd{Kind: math.MaxInt, Who: math.MinInt, Key: far, Val: far, Old: far}), ent(1, 1, api.Cmd{Kind: -1, Who: -1})}
	// A machine that no entries come to: rows that do not rise, and more in each than it holds.
	m := api.Machine{Objects: api.Objects{Reg: far, Queue: make([][]byte, 20), Lock: []int{-1, -1, 5000, 7, 7, 7, 7}, Map: make([]api.Pair, 20)}, Table: slices.Repeat([]api.Last{{Sess: 5, Seq: math.MaxInt, Result: api.Result{Err: -1, N: math.MinInt}}, {Sess: -5}}, 20)}
	edges := []int{math.MinInt, math.MinInt + 1, -highest, -65, -1, 0, 1, 63, 64, 65, mostIndex, highest, highest + 65, math.MaxInt - 64, math.MaxInt - 1, math.MaxInt}
	for _, at := range edges {
		k, model := begun(api.State{At: at, Machine: m, Rest: odd})
		for n, i := range edges {
			e := odd[n%len(odd)]
			k.Get(i)
			if k.Add(i, e) != model.add(i, e) {
				t.Errorf("at %d: Add(%d)", at, i)
			}
			if got, want := told(k.Apply(i)), told(model.apply(i)); got != want {
				t.Errorf("at %d: Apply(%d) is %s, not %s", at, i, got, want)
			}
			compare(t, k, model)
		}
	}
}

// 16.3: whatever is asked for, no call panics, and all end and answer as the promise says.
func FuzzBook(f *testing.F) {
	f.Add(0, []byte(nil))
	f.Add(3, []byte{5, 0, 1, 5, 0, 2, 0, 9, 3, 7, 6, 0, 9, 3, 4, 8, 15, 0})
	f.Add(math.MaxInt, []byte{9, 15, 4, 5, 0, 1, 4, 10, 7, 8, 15, 0, 9, 1, 1})
	f.Add(-9, []byte{0, 10, 1, 1, 11, 1, 5, 0, 8, 8, 9, 0, 9, 69, 8, 7, 30, 0})
	f.Fuzz(func(t *testing.T, at int, acts []byte) {
		k, m := begun(api.State{At: at})
		// Of more acts the model, which counts from the beginning each time, takes too long.
		acts = acts[:min(len(acts), 300)]
		for n := 0; n+2 < len(acts); n += 3 {
			act(t, k, m, acts[n], acts[n+1], acts[n+2])
			compare(t, k, m)
		}
	})
}
