package book_test

import (
	"bytes"
	"slices"
	"testing"

	"hocket/api"
	"hocket/book"
)

// asked is a state whose lists of bytes lie in one room, with spare room behind each, and what all that was.
type asked struct {
	s, was        api.State
	room, roomWas []byte
	at            int
}

// place lays x into the room, with spare room behind it.
func (a *asked) place(x []byte) []byte {
	a.at += 64
	return append(a.room[a.at-64:a.at-64:a.at], x...)
}

// entry lays e's lists into the room.
func (a *asked) entry(e api.Entry) api.Entry {
	return ent(e.Sess, e.Seq, api.Cmd{Kind: e.Cmd.Kind, Who: e.Cmd.Who, Key: a.place(e.Cmd.Key), Val: a.place(e.Cmd.Val), Old: a.place(e.Cmd.Old)})
}

// ask lays s so; behind each row stand two more, that are not its own.
func ask(s api.State) *asked {
	o := s.Machine.Objects
	a := &asked{room: bytes.Repeat([]byte{0x5a}, 64*(len(o.Queue)+2*len(o.Map)+len(s.Machine.Table)+3*len(s.Rest)+20))}
	a.was = api.State{At: s.At, Machine: api.Machine{Objects: api.Objects{Reg: a.place(o.Reg)}}}
	was := &a.was.Machine
	for _, v := range append(slices.Clone(o.Queue), b("spare"), b("spare")) {
		was.Objects.Queue = append(was.Objects.Queue, a.place(v))
	}
	was.Objects.Lock = append(slices.Clone(o.Lock), 700, 701)
	pair := api.Pair{Key: b("spare"), Val: b("room")}
	for _, p := range append(slices.Clone(o.Map), pair, pair) {
		was.Objects.Map = append(was.Objects.Map, api.Pair{Key: a.place(p.Key), Val: a.place(p.Val)})
	}
	last := api.Last{Sess: 700, Seq: 1}
	for _, l := range append(slices.Clone(s.Machine.Table), last, last) {
		was.Table = append(was.Table, api.Last{Sess: l.Sess, Seq: l.Seq, Result: api.Result{Err: l.Result.Err, Val: a.place(l.Result.Val), N: l.Result.N}})
	}
	e := ent(9, 9, api.Cmd{Kind: 9})
	for _, e := range append(slices.Clone(s.Rest), e, e) {
		a.was.Rest = append(a.was.Rest, a.entry(e))
	}
	a.s = api.State{At: s.At, Rest: slices.Clone(a.was.Rest)[:len(s.Rest)]}
	a.s.Machine.Objects = api.Objects{Reg: was.Objects.Reg, Queue: slices.Clone(was.Objects.Queue)[:len(o.Queue)], Lock: slices.Clone(was.Objects.Lock)[:len(o.Lock)], Map: slices.Clone(was.Objects.Map)[:len(o.Map)]}
	a.s.Machine.Table = slices.Clone(was.Table)[:len(s.Machine.Table)]
	a.roomWas = bytes.Clone(a.room)
	return a
}

// stays tells if all that was handed in is what it was, with the room behind it.
func (a *asked) stays() bool {
	o, was := a.s.Machine.Objects, a.was.Machine
	now := api.State{At: a.s.At, Rest: a.s.Rest[:len(a.was.Rest)]}
	now.Machine.Objects = api.Objects{Reg: o.Reg, Queue: o.Queue[:len(was.Objects.Queue)], Lock: o.Lock[:len(was.Objects.Lock)], Map: o.Map[:len(was.Objects.Map)]}
	now.Machine.Table = a.s.Machine.Table[:len(was.Table)]
	return told(now) == told(a.was) && bytes.Equal(a.room, a.roomWas)
}

// scribble turns all bytes of x, and of the room behind it.
func scribble(x []byte) {
	room := x[:cap(x)]
	for k := range room {
		room[k] ^= 0x7f
	}
}

// ofMachine, ofEntry and ofDones are all lists of bytes of what they are given.
func ofMachine(m api.Machine) [][]byte {
	l := append([][]byte{m.Objects.Reg}, m.Objects.Queue...)
	for _, p := range m.Objects.Map {
		l = append(l, p.Key, p.Val)
	}
	for _, x := range m.Table {
		l = append(l, x.Result.Val)
	}
	return l
}

func ofEntry(e api.Entry) [][]byte {
	return [][]byte{e.Cmd.Key, e.Cmd.Val, e.Cmd.Old}
}

func ofDones(dones []api.Done) [][]byte {
	var l [][]byte
	for _, d := range dones {
		l = append(append(l, ofEntry(d.Entry)...), d.Result.Val)
	}
	return l
}

// ofState are all lists of bytes of s.
func ofState(s api.State) [][]byte {
	l := ofMachine(s.Machine)
	for _, e := range s.Rest {
		l = append(l, ofEntry(e)...)
	}
	return l
}

// clearRows clears each row of s, with the room behind it.
func clearRows(s api.State) {
	o := s.Machine.Objects
	clear(o.Queue[:cap(o.Queue)])
	clear(o.Lock[:cap(o.Lock)])
	clear(o.Map[:cap(o.Map)])
	clear(s.Machine.Table[:cap(s.Machine.Table)])
	clear(s.Rest[:cap(s.Rest)])
}

// few are states of each make: entries of each kind, such as were asked ahead, and such as are refused.
func few() []api.State {
	l := []api.State{{}, {At: 300, Machine: small()}, {At: 5, Rest: log(2, 12)}}
	var kinds []api.Entry
	for kind := range 13 {
		kinds = append(kinds, ent(5, 7+kind, api.Cmd{Kind: kind, Who: 3, Key: b("k"), Val: b("val"), Old: b("reg")}))
	}
	same := ent(1, 300, push("again"))
	return append(l, api.State{At: 9, Machine: small(), Rest: kinds}, api.State{Machine: small(), Rest: []api.Entry{same, same, ent(1, 2, push("old")), ent(0, 0, push("none"))}})
}

// apart ends the test where what is done to one list of what ask answers, or to the room behind it, is seen in another of its lists, or in what is asked then.
func apart(t *testing.T, ask func() [][]byte) {
	t.Helper()
	was := told(ask())
	for i := range ask() {
		l, clean := ask(), ask()
		scribble(l[i])
		for k := range l {
			if k != i && !bytes.Equal(l[k], clean[k]) {
				t.Fatalf("list %d is list %d", i, k)
			}
		}
		if told(clean) != was || told(ask()) != was {
			t.Fatalf("list %d is lent: %s, not %s", i, told(ask()), was)
		}
	}
}

// 16.1, rule 3: an entry that is handed in stays, with the room behind its lists, and is not kept: what is done to it behind that is not seen.
func TestAddedStays(t *testing.T) {
	for _, s := range few() {
		a := ask(s)
		k, m := begun(api.State{Machine: small()})
		for i, e := range a.s.Rest {
			k.Add(i+1, e)
			k.Add(i+1, e)
			k.Add(-5, e)
			m.add(i+1, s.Rest[i])
		}
		if !a.stays() {
			t.Fatalf("changed to %v", a.s)
		}
		scribble(a.room)
		compare(t, k, m)
		got, want := k.Apply(100), m.apply(100)
		if told(got) != told(want) {
			t.Errorf("what was handed in is kept: %v, not %v", got, want)
		}
		scribble(a.room)
		compare(t, k, m)
		if told(got) != told(want) {
			t.Errorf("what was handed in is answered: %v, not %v", got, want)
		}
	}
}

// 16.1, rule 3: a state that is handed in stays, with the room behind its lists, and is not kept.
func TestLoadedStays(t *testing.T) {
	for _, s := range few() {
		a := ask(s)
		k, m := begun(s)
		k.Load(a.s)
		if !a.stays() {
			t.Fatalf("changed to %v", a.s)
		}
		compare(t, k, m)
		dones := k.Apply(s.At + 2)
		want := told(m.apply(s.At + 2))
		k.State()
		k.Add(k.Whole()+1, write(1))
		m.add(m.whole()+1, write(1))
		if !a.stays() {
			t.Fatalf("changed to %v", a.s)
		}
		clearRows(a.s)
		scribble(a.room)
		compare(t, k, m)
		if told(dones) != want {
			t.Errorf("what was handed in is answered: %v, not %s", dones, want)
		}
		if got, want := told(k.Apply(1000)), told(m.apply(1000)); got != want {
			t.Errorf("what was handed in is kept: %s, not %s", got, want)
		}
		compare(t, k, m)
	}
}

// 16.1, rule 3: what Get, Machine, State and Missing answer is in memory of its own, each list apart from the others and from the book.
func TestAnswersAreNew(t *testing.T) {
	for _, s := range few() {
		for applied := range len(s.Rest) + 1 {
			k, m := begun(s)
			k.Apply(s.At + applied)
			m.apply(s.At + applied)
			k.Add(m.whole()+3, write(3))
			m.add(m.whole()+3, write(3))
			apart(t, func() [][]byte { return ofMachine(k.Machine()) })
			apart(t, func() [][]byte { return ofState(k.State()) })
			for i := k.At() + 1; i <= k.Whole()+3; i++ {
				apart(t, func() [][]byte {
					e, _ := k.Get(i)
					return ofEntry(e)
				})
			}
			clearRows(k.State())
			clearRows(api.State{Machine: k.Machine()})
			l := k.Missing(1000)
			clear(l[:cap(l)])
			compare(t, k, m)
		}
	}
}

// 16.1, rule 3: the Dones are in memory of their own, each list apart from the others, and from the book, which may be asked for the same things again.
func TestDonesAreNew(t *testing.T) {
	for _, s := range few() {
		for applied := range len(s.Rest) + 1 {
			_, want := begun(s)
			clean := want.apply(s.At + applied)
			for i := range ofDones(clean) {
				k, _ := begun(s)
				got := k.Apply(s.At + applied)
				l, was := ofDones(got), ofDones(clean)
				scribble(l[i])
				for n := range l {
					if n != i && !bytes.Equal(l[n], was[n]) {
						t.Fatalf("list %d is list %d", i, n)
					}
				}
				clear(got[:cap(got)])
				compare(t, k, want)
			}
		}
	}
}

// 16.1, rule 3: what is answered again to what is asked again is new memory each time, and not that of the first answer.
func TestAnsweredAgainIsNew(t *testing.T) {
	k := book.New()
	write, read := ent(1, 1, api.Cmd{Kind: api.CWrite, Val: b("abc")}), ent(1, 2, api.Cmd{Kind: api.CRead})
	for i, e := range []api.Entry{write, read, read, read} {
		k.Add(i+1, e)
	}
	for i := 1; i <= 4; i++ {
		for _, d := range k.Apply(i) {
			if i > 1 && string(d.Result.Val) != "abc" {
				t.Errorf("%d: %v", i, d)
			}
			for _, x := range ofDones([]api.Done{d}) {
				scribble(x)
			}
		}
	}
	if m := k.Machine(); string(m.Objects.Reg) != "abc" || string(m.Table[0].Result.Val) != "abc" {
		t.Error(m)
	}
}

// 16.1, rule 3: a state that one book answers is another's, and what either does then is not seen in the other, nor in the state.
func TestStateIsNoPart(t *testing.T) {
	for _, s := range few() {
		k, m := begun(s)
		x := book.New()
		taken := k.State()
		was := told(taken)
		x.Load(taken)
		x.Apply(1000)
		x.Add(x.Whole()+1, write(5))
		x.Apply(1000)
		compare(t, k, m)
		k.Load(k.State())
		k.Apply(1000)
		m.apply(1000)
		compare(t, k, m)
		if told(taken) != was {
			t.Errorf("%v, not %s", taken, was)
		}
		x.Load(taken)
		if told(x.State()) != was {
			t.Errorf("%v, not %s", x.State(), was)
		}
	}
}
