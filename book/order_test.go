package book_test

import (
	"math"
	"slices"
	"testing"

	"hocket/api"
	"hocket/blob"
	"hocket/book"
	"hocket/mach"
)

// along are the machines that l comes to, up to each index, and what is done at each.
func along(l []api.Entry) (machines []api.Machine, dones []api.Done) {
	m := api.Machine{}
	machines = append(machines, m)
	for i, e := range l {
		var d []api.Done
		m, d = does(m, i, []api.Entry{e})
		machines, dones = append(machines, m), append(dones, d...)
	}
	return machines, dones
}

// member is a book of which many have the same log, with all that it told as done since it was begun, and the index behind which that was.
type member struct {
	k     *book.Book
	dones []api.Done
	begun int
}

// does applies, and keeps what is told.
func (m *member) does(to int) {
	m.dones = append(m.dones, m.k.Apply(to)...)
}

// takes makes m what s says, in bytes and from them, and as new.
func (m *member) takes(t *testing.T, s api.State) {
	t.Helper()
	x := blob.Encode(s)
	got, ok := blob.Decode(x)
	if !ok || told(got) != told(s) {
		t.Fatalf("%v comes over as %v", s, got)
	}
	m.k.Load(got)
	m.dones, m.begun = nil, s.At
}

// holds ends the test where m is not what the log comes to up to its At, where it did something otherwise, twice or not at all, or where what it has is another's.
func (m *member) holds(t *testing.T, l []api.Entry, machines []api.Machine, dones []api.Done) {
	t.Helper()
	at, whole := m.k.At(), m.k.Whole()
	if at > whole || whole > len(l) || !mach.Same(m.k.Machine(), machines[at]) {
		t.Fatalf("At %d, Whole %d: %v, not %v", at, whole, m.k.Machine(), machines[at])
	}
	if told(m.dones) != told(dones[m.begun:at]) {
		t.Fatalf("from %d up to %d: %v, not %v", m.begun, at, m.dones, dones[m.begun:at])
	}
	s := m.k.State()
	if s.At != at || !mach.Same(s.Machine, machines[at]) || !slices.EqualFunc(s.Rest, l[at:whole], mach.SameEntry) {
		t.Fatalf("At %d, Whole %d: %v", at, whole, s)
	}
	for i := whole + 1; i <= len(l); i++ {
		if e, ok := m.k.Get(i); ok && !mach.SameEntry(e, l[i-1]) {
			t.Fatalf("%d is %v", i, e)
		}
	}
}

// 16.2, W2: whatever of one log comes to each book, in whatever order and however often, and however far each is told to apply, each machine is what the log comes to up to its At; what each was told to be missing comes in the end, and then all are the same. Some take over another's state on the way (W4).
func TestOneLog(t *testing.T) {
	for seed := range 12 {
		l, next := log(seed, 150), dice(seed+100)
		machines, dones := along(l)
		var all []*member
		for range 4 {
			all = append(all, &member{k: book.New()})
		}
		for range 400 {
			m := all[next(len(all))]
			// Most that comes is near what is whole: of what is far nearly all is refused.
			i := min(len(l), max(1, m.k.Whole()-3+next(12)))
			if next(4) == 0 {
				i = 1 + next(len(l))
			}
			m.k.Add(i, l[i-1])
			switch next(20) {
			case 0, 1, 2:
				m.does(next(len(l) + 1))
			case 3:
				m.does(m.k.Whole() - next(3))
			case 4:
				other := all[next(len(all))].k.State()
				m.takes(t, other)
			}
			m.holds(t, l, machines, dones)
		}
		for _, m := range all {
			for missing := m.k.Missing(len(l)); len(missing) > 0; missing = m.k.Missing(len(l)) {
				for _, i := range missing {
					if !m.k.Add(i, l[i-1]) {
						t.Fatalf("%d is missing, and can't be added", i)
					}
				}
				m.holds(t, l, machines, dones)
			}
			m.does(math.MaxInt)
			m.holds(t, l, machines, dones)
			if m.k.At() != len(l) {
				t.Fatalf("At %d, of %d", m.k.At(), len(l))
			}
		}
	}
}

// 16.2, W2: in each order of a few entries, with each of them applied as soon as it can be or at the end, the books are the same.
func TestEachOrder(t *testing.T) {
	l := log(5, 5)
	machines, dones := along(l)
	var each func(order []int)
	each = func(order []int) {
		if len(order) < len(l) {
			for i := 1; i <= len(l); i++ {
				if !slices.Contains(order, i) {
					each(append(slices.Clone(order), i))
				}
			}
			return
		}
		for _, atOnce := range []bool{false, true} {
			m := &member{k: book.New()}
			for _, i := range order {
				if !m.k.Add(i, l[i-1]) {
					t.Fatalf("%d: %d can't be added", order, i)
				}
				if atOnce {
					m.does(len(l))
				}
				m.holds(t, l, machines, dones)
			}
			m.does(len(l))
			m.holds(t, l, machines, dones)
			if m.k.At() != len(l) {
				t.Fatalf("%d: At %d", order, m.k.At())
			}
		}
	}
	each(nil)
}

// 16.2, W2: who goes on in another view has what the last one gave out in vain taken from it: whatever it had beyond what is whole at the one whose state is taken, other entries stand at those indexes then, in all books alike.
func TestOtherLogGoes(t *testing.T) {
	for seed := range 10 {
		shared, lost, won := log(seed, 30), log(seed+20, 40), log(seed+40, 40)
		source, other := book.New(), &member{k: book.New()}
		for i, e := range shared {
			source.Add(i+1, e)
			if i < 25 {
				other.k.Add(i+1, e)
			}
		}
		for i, e := range lost {
			// The source lacks the first of them, the other one more.
			if i > 0 {
				source.Add(31+i, e)
			}
			other.k.Add(32+i, e)
		}
		source.Apply(10 + seed)
		other.does(5 + seed)
		s := source.State()
		if s.At != 10+seed || len(s.Rest) != 20-seed {
			t.Fatalf("%v", s)
		}
		source.Load(s)
		other.takes(t, s)
		l := slices.Concat(shared, won)
		machines, dones := along(l)
		taken := &member{k: source, begun: s.At}
		for _, m := range []*member{taken, other} {
			if !slices.Equal(m.k.Missing(33), []int{31, 32, 33}) {
				t.Fatalf("%d is missing", m.k.Missing(33))
			}
			for i, e := range won {
				if !m.k.Add(31+i, e) {
					t.Fatalf("%d can't be added", 31+i)
				}
			}
			m.does(len(l))
			m.holds(t, l, machines, dones)
		}
	}
}

// 16.2, W4: at whatever place of a log a state is taken over, the book that takes it holds all that was answered ahead of it, answers again what was asked ahead as it was answered (W3), and goes on as the first.
func TestTakenOver(t *testing.T) {
	for seed := range 8 {
		l := log(seed, 100)
		machines, dones := along(l)
		first := &member{k: book.New()}
		for at := 0; at <= len(l); at += 1 + seed {
			for i := first.k.Whole(); i < min(len(l), at+20); i++ {
				first.k.Add(i+1, l[i])
			}
			first.does(at)
			first.holds(t, l, machines, dones)
			second := &member{k: book.New()}
			second.k.Add(1, write(7))
			second.k.Add(40, write(8))
			second.does(1)
			second.takes(t, first.k.State())
			second.holds(t, l, machines, dones)
			if second.k.At() != at || second.k.Whole() != first.k.Whole() {
				t.Fatalf("At %d, Whole %d, not %d, %d", second.k.At(), second.k.Whole(), at, first.k.Whole())
			}
			again := book.New()
			for _, last := range first.k.Machine().Table {
				again.Load(api.State{At: at, Machine: second.k.Machine()})
				again.Add(at+1, ent(last.Sess, last.Seq, push("again")))
				if d := again.Apply(at + 1); len(d) != 1 || told(d[0].Result) != told(last.Result) || !mach.Same(again.Machine(), machines[at]) {
					t.Fatalf("up to %d: session %d is answered %v anew", at, last.Sess, d)
				}
			}
			for i := second.k.Whole(); i < len(l); i++ {
				second.k.Add(i+1, l[i])
			}
			second.does(len(l))
			second.holds(t, l, machines, dones)
			if second.k.At() != len(l) {
				t.Fatalf("At %d", second.k.At())
			}
		}
	}
}
