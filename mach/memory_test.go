package mach_test

import (
	"bytes"
	"slices"
	"strings"
	"testing"

	"hocket/api"
	"hocket/mach"
	"hocket/pack"
)

// asked is a machine and an entry whose bytes lie in one room, with spare room behind each list, and what all that was.
type asked struct {
	m, was        api.Machine
	e             api.Entry
	room, roomWas []byte
	at            int
}

// place lays x into the room, with spare room behind it.
func (a *asked) place(x []byte) []byte {
	a.at += 64
	return append(a.room[a.at-64:a.at-64:a.at], x...)
}

// result lays r's value into the room.
func (a *asked) result(r api.Result) api.Result {
	return api.Result{Err: r.Err, Val: a.place(r.Val), N: r.N}
}

// ask lays m and e so; behind each row stand two more, that are not its own.
func ask(m api.Machine, e api.Entry) *asked {
	s := m.Objects
	a := &asked{room: bytes.Repeat([]byte{0x5a}, 64*(len(s.Queue)+2*len(s.Map)+len(m.Table)+16))}
	for _, v := range append(slices.Clone(s.Queue), b("spare"), b("spare")) {
		a.was.Objects.Queue = append(a.was.Objects.Queue, a.place(v))
	}
	a.was.Objects.Lock = append(slices.Clone(s.Lock), 700, 701)
	room := api.Pair{Key: b("spare"), Val: b("room")}
	for _, p := range append(slices.Clone(s.Map), room, room) {
		a.was.Objects.Map = append(a.was.Objects.Map, api.Pair{Key: a.place(p.Key), Val: a.place(p.Val)})
	}
	more := api.Last{Sess: 700, Seq: 1, Result: api.Result{Val: b("spare")}}
	for _, l := range append(slices.Clone(m.Table), more, more) {
		a.was.Table = append(a.was.Table, api.Last{Sess: l.Sess, Seq: l.Seq, Result: a.result(l.Result)})
	}
	a.m.Objects = api.Objects{Reg: a.place(s.Reg), Queue: slices.Clone(a.was.Objects.Queue)[:len(s.Queue)], Lock: slices.Clone(a.was.Objects.Lock)[:len(s.Lock)], Map: slices.Clone(a.was.Objects.Map)[:len(s.Map)]}
	a.m.Table = slices.Clone(a.was.Table)[:len(m.Table)]
	a.e = ent(e.Sess, e.Seq, api.Cmd{Kind: e.Cmd.Kind, Who: e.Cmd.Who, Key: a.place(e.Cmd.Key), Val: a.place(e.Cmd.Val), Old: a.place(e.Cmd.Old)})
	a.roomWas = bytes.Clone(a.room)
	return a
}

// alike tells if x and y are the same bytes in the same place.
func alike(x, y []byte) bool {
	return len(x) == len(y) && cap(x) == cap(y) && &x[:1][0] == &y[:1][0]
}

// stays tells if all that was handed in is what it was, with the room behind it; lists are held to their places too, so that none is changed for another of the same bytes.
func (a *asked) stays() bool {
	s, was := a.m.Objects, a.was.Objects
	rows := slices.EqualFunc(s.Queue[:len(was.Queue)], was.Queue, alike) &&
		slices.Equal(s.Lock[:len(was.Lock)], was.Lock) &&
		slices.EqualFunc(s.Map[:len(was.Map)], was.Map, func(x, y api.Pair) bool { return alike(x.Key, y.Key) && alike(x.Val, y.Val) })
	table := slices.EqualFunc(a.m.Table[:len(a.was.Table)], a.was.Table, func(x, y api.Last) bool {
		return x.Sess == y.Sess && x.Seq == y.Seq && x.Result.Err == y.Result.Err && x.Result.N == y.Result.N && alike(x.Result.Val, y.Result.Val)
	})
	return rows && table && bytes.Equal(a.room, a.roomWas)
}

// handed are machines and entries, for each way that a call goes: new ones of each kind, such as were asked ahead, and such as are refused.
func handed() []*asked {
	long, far := b(strings.Repeat("v", mostVal)), b(strings.Repeat("v", mostVal+1))
	var l []*asked
	for _, m := range []api.Machine{{}, of("reg", letters(3), []int{3, 0, 9}, pairs(3), lasts(3)...), big(mostLock), of(string(far), letters(9), people(6), pairs(9), lasts(9)...)} {
		for kind := range 13 {
			l = append(l, ask(m, ent(15, 1, api.Cmd{Kind: kind, Who: 3, Key: b("b00"), Val: b("new"), Old: m.Objects.Reg})), ask(m, ent(10, 9, api.Cmd{Kind: kind, Who: 1, Key: b("c"), Val: long, Old: b("x")})), ask(m, ent(top, top, api.Cmd{Kind: kind, Who: 1000, Key: far, Val: far, Old: m.Objects.Reg})))
		}
		for _, call := range [][2]int{{0, 0}, {10, 5}, {10, 4}, {20, 6}, {20, 0}, {95, 1}, {top - 1, top}} {
			l = append(l, ask(m, ent(call[0], call[1], api.Cmd{Kind: api.CPush, Val: b("x")})))
		}
	}
	return l
}

// lists are all lists of bytes of m and of r.
func lists(m api.Machine, r api.Result) [][]byte {
	l := append([][]byte{r.Val, m.Objects.Reg}, m.Objects.Queue...)
	for _, p := range m.Objects.Map {
		l = append(l, p.Key, p.Val)
	}
	for _, x := range m.Table {
		l = append(l, x.Result.Val)
	}
	return l
}

// texts are l's lists as texts.
func texts(l [][]byte) []string {
	var out []string
	for _, x := range l {
		out = append(out, string(x))
	}
	return out
}

// scribble turns all bytes of x, and of the room behind it.
func scribble(x []byte) {
	room := x[:cap(x)]
	for k := range room {
		room[k] ^= 0xff
	}
}

// 10.1, 10.2, rule 3: what is handed in stays, and so does the room behind it; of that room nothing is told.
func TestHandedInStays(t *testing.T) {
	for i, a := range handed() {
		next, r := mach.Step(a.m, a.e)
		form, entry := mach.Encode(a.m), mach.PutEntry(a.m.Objects.Reg, a.e)
		mach.Decode(a.m.Objects.Reg)
		mach.Same(a.m, next)
		mach.Same(next, a.m)
		mach.SameEntry(a.e, api.Entry{})
		if !a.stays() {
			t.Errorf("%d: %s: what is handed in was changed", i, toldEntry(a.e))
		}
		if got, want := gone(next, r), gone(stepBySentence(a.m, a.e)); got != want {
			t.Errorf("%d: %s: %s, not %s", i, toldEntry(a.e), got, want)
		}
		if !bytes.Equal(form, encodeBySentence(a.m)) || !bytes.Equal(entry, append(bytes.Clone(a.m.Objects.Reg), entryBySentence(a.e)...)) {
			t.Errorf("%d: %x, and %x", i, form, entry)
		}
	}
}

// 10.1, rule 3: what is done to an answered list of bytes, and to the room behind it, is not seen in what was handed in, nor in another list of the answer.
func TestStepIsNew(t *testing.T) {
	for n, a := range handed() {
		for i := range lists(mach.Step(a.m, a.e)) {
			l := lists(mach.Step(a.m, a.e))
			was := texts(l)
			scribble(l[i])
			if !a.stays() {
				t.Fatalf("%d: %s: list %d is what was handed in", n, toldEntry(a.e), i)
			}
			for k := range l {
				if k != i && string(l[k]) != was[k] {
					t.Errorf("%d: %s: list %d is list %d", n, toldEntry(a.e), i, k)
				}
			}
		}
	}
}

// 10.1, rule 3: what is laid into an answered row, and into the room behind it, is not seen in what was handed in; that room holds nothing of what was handed in.
func TestRowsAreNew(t *testing.T) {
	for n, a := range handed() {
		next, _ := mach.Step(a.m, a.e)
		s := next.Objects
		queue, row, pairs, table := s.Queue[:cap(s.Queue)], s.Lock[:cap(s.Lock)], s.Map[:cap(s.Map)], next.Table[:cap(next.Table)]
		for i, x := range queue {
			scribble(x)
			queue[i] = b("laid in")
		}
		for i := range row {
			row[i] = -7
		}
		for i, p := range pairs {
			scribble(p.Key)
			scribble(p.Val)
			pairs[i] = api.Pair{Key: b("laid"), Val: b("in")}
		}
		for i, x := range table {
			scribble(x.Result.Val)
			table[i] = api.Last{Sess: 77, Seq: 77, Result: api.Result{Err: 7, Val: b("laid in"), N: 77}}
		}
		if !a.stays() {
			t.Errorf("%d: %s: a row is what was handed in", n, toldEntry(a.e))
		}
	}
}

// 10.1, 10.2, rule 3: what is done later to what was handed in is not seen in an answer.
func TestNothingIsKept(t *testing.T) {
	for n, a := range handed() {
		next, r := mach.Step(a.m, a.e)
		form, entry := mach.Encode(a.m), mach.PutEntry(a.m.Objects.Reg, a.e)
		was, formWas, entryWas := gone(next, r), bytes.Clone(form), bytes.Clone(entry)
		clear(a.room)
		s := a.m.Objects
		clear(s.Queue[:cap(s.Queue)])
		clear(s.Lock[:cap(s.Lock)])
		clear(s.Map[:cap(s.Map)])
		clear(a.m.Table[:cap(a.m.Table)])
		if gone(next, r) != was || !bytes.Equal(form, formWas) || !bytes.Equal(entry, entryWas) {
			t.Errorf("%d: %s: %s, then %s", n, toldEntry(a.e), was, gone(next, r))
		}
	}
}

// 10.1, rule 3: one list may stand in each place that is handed in; what is answered is none the less apart.
func TestOneListInEachPlace(t *testing.T) {
	for _, size := range []int{1, 8, 9, 16, 17} {
		x := bytes.Repeat([]byte("x"), size)
		r := api.Result{Val: x}
		m := api.Machine{Objects: api.Objects{Reg: x, Queue: [][]byte{x, x}, Lock: []int{1}, Map: []api.Pair{{Key: x, Val: x}}}, Table: []api.Last{{Sess: 1, Seq: 1, Result: r}, {Sess: 2, Seq: 1, Result: r}}}
		for kind := range 13 {
			for _, call := range [][2]int{{3, 1}, {1, 1}, {2, 2}, {0, 0}} {
				e := ent(call[0], call[1], api.Cmd{Kind: kind, Who: 1, Key: x, Val: x, Old: x})
				l := lists(mach.Step(m, e))
				for i := range l {
					rest := texts(l[i+1:])
					scribble(l[i])
					if !slices.Equal(texts(l[i+1:]), rest) {
						t.Errorf("%s: list %d is one behind it", toldEntry(e), i)
					}
				}
				if string(x) != strings.Repeat("x", size) {
					t.Fatalf("%s: what is handed in was changed", toldEntry(e))
				}
			}
		}
	}
}

// 10.2, rule 3: bytes that are answered are new memory, and so is the room behind them.
func TestBytesAreNew(t *testing.T) {
	for n, a := range handed() {
		scribble(mach.Encode(a.m))
		scribble(mach.PutEntry(a.m.Objects.Reg, a.e))
		scribble(mach.PutEntry(a.m.Objects.Reg[:0], a.e))
		if !a.stays() {
			t.Errorf("%d: %s: the bytes are what was handed in", n, toldEntry(a.e))
		}
	}
	// Two entries behind one beginning do not meet.
	ahead := append(make([]byte, 0, 200), 1, 2, 3)
	one := mach.PutEntry(ahead, ent(1, 1, api.Cmd{Val: b("one")}))
	left := mach.PutEntry(one, ent(2, 2, api.Cmd{Val: b("left")}))
	right := mach.PutEntry(one, ent(3, 3, api.Cmd{Val: b("right")}))
	if !bytes.Equal(left[len(one):], entryBySentence(ent(2, 2, api.Cmd{Val: b("left")}))) || !bytes.Equal(right[len(one):], entryBySentence(ent(3, 3, api.Cmd{Val: b("right")}))) {
		t.Errorf("%x, and %x", left, right)
	}
	if !bytes.Equal(ahead[:200], append([]byte{1, 2, 3}, make([]byte, 197)...)) {
		t.Errorf("%x", ahead[:200])
	}
}

// 10.2, rule 3: a machine, or an entry, that is read is in memory of its own, each list apart from the others and from the bytes.
func TestReadIsNew(t *testing.T) {
	for n, m := range well() {
		form := encodeBySentence(m)
		x := append(bytes.Clone(form), 0x5a, 0x5a)[:len(form)]
		first, _ := mach.Decode(x)
		for i := range lists(first, api.Result{}) {
			got, _ := mach.Decode(x)
			l := lists(got, api.Result{})
			was := texts(l)
			scribble(l[i])
			for k := range l {
				if k != i && string(l[k]) != was[k] {
					t.Errorf("%d: list %d is list %d", n, i, k)
				}
			}
		}
		if !bytes.Equal(x[:len(x)+2], append(bytes.Clone(form), 0x5a, 0x5a)) {
			t.Errorf("%d: the bytes were changed", n)
		}
		clear(x)
		if told(first) != told(m) {
			t.Errorf("%d: %s, not %s", n, told(first), told(m))
		}
	}
	x := mach.PutEntry(mach.PutEntry(nil, ent(1, 1, api.Cmd{Key: b("k"), Val: b("v"), Old: b("o")})), ent(2, 2, api.Cmd{Key: b("kk"), Val: b("vv"), Old: b("oo")}))
	form := bytes.Clone(x)
	r := pack.Read(x)
	one := mach.GetEntry(r)
	for _, l := range [][]byte{one.Cmd.Key, one.Cmd.Val, one.Cmd.Old} {
		scribble(l)
		scribble(l)
		_ = append(l, 200, 200, 200, 200)
	}
	if !bytes.Equal(x, form) {
		t.Error("the bytes were changed")
	}
	clear(x)
	two := mach.GetEntry(r)
	if toldEntry(one) != toldEntry(ent(1, 1, api.Cmd{Key: b("k"), Val: b("v"), Old: b("o")})) || toldEntry(two) != toldEntry(ent(2, 2, api.Cmd{Key: b("kk"), Val: b("vv"), Old: b("oo")})) {
		t.Error(toldEntry(one), toldEntry(two))
	}
}
