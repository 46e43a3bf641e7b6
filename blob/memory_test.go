package blob_test

import (
	"bytes"
	"slices"
	"testing"

	"hocket/api"
	"hocket/blob"
)

// asked is a state whose lists of bytes lie in one room, with spare room behind each, and what all that was.
type asked struct {
	s, was        api.State
	room, roomWas []byte
	at            int
}

// place lays x into the room, with spare room behind it.
func (a *asked) place(x []byte) []byte {
	a.at += 64
	return append(a.room[a.at-64:a.at-64:a.at], x...)
}

// entry lays e's lists into the room.
func (a *asked) entry(e api.Entry) api.Entry {
	return ent(e.Sess, e.Seq, api.Cmd{Kind: e.Cmd.Kind, Who: e.Cmd.Who, Key: a.place(e.Cmd.Key), Val: a.place(e.Cmd.Val), Old: a.place(e.Cmd.Old)})
}

// ask lays s so; behind each row stand two more, that are not its own.
func ask(s api.State) *asked {
	o := s.Machine.Objects
	a := &asked{room: bytes.Repeat([]byte{0x5a}, 64*(len(o.Queue)+2*len(o.Map)+len(s.Machine.Table)+3*len(s.Rest)+20))}
	a.was = api.State{At: s.At, Machine: api.Machine{Objects: api.Objects{Reg: a.place(o.Reg)}}}
	was := &a.was.Machine
	for _, v := range append(slices.Clone(o.Queue), b("spare"), b("spare")) {
		was.Objects.Queue = append(was.Objects.Queue, a.place(v))
	}
	was.Objects.Lock = append(slices.Clone(o.Lock), 700, 701)
	pair := api.Pair{Key: b("spare"), Val: b("room")}
	for _, p := range append(slices.Clone(o.Map), pair, pair) {
		was.Objects.Map = append(was.Objects.Map, api.Pair{Key: a.place(p.Key), Val: a.place(p.Val)})
	}
	last := api.Last{Sess: 700, Seq: 1}
	for _, l := range append(slices.Clone(s.Machine.Table), last, last) {
		was.Table = append(was.Table, api.Last{Sess: l.Sess, Seq: l.Seq, Result: api.Result{Err: l.Result.Err, Val: a.place(l.Result.Val), N: l.Result.N}})
	}
	e := ent(9, 9, api.Cmd{Kind: 9})
	for _, e := range append(slices.Clone(s.Rest), e, e) {
		a.was.Rest = append(a.was.Rest, a.entry(e))
	}
	a.s = api.State{At: s.At, Rest: slices.Clone(a.was.Rest)[:len(s.Rest)]}
	a.s.Machine.Objects = api.Objects{Reg: was.Objects.Reg, Queue: slices.Clone(was.Objects.Queue)[:len(o.Queue)], Lock: slices.Clone(was.Objects.Lock)[:len(o.Lock)], Map: slices.Clone(was.Objects.Map)[:len(o.Map)]}
	a.s.Machine.Table = slices.Clone(was.Table)[:len(s.Machine.Table)]
	a.roomWas = bytes.Clone(a.room)
	return a
}

// stays tells if all that was handed in is what it was, with the room behind it.
func (a *asked) stays() bool {
	o, was := a.s.Machine.Objects, a.was.Machine
	now := api.State{At: a.s.At, Rest: a.s.Rest[:len(a.was.Rest)]}
	now.Machine.Objects = api.Objects{Reg: o.Reg, Queue: o.Queue[:len(was.Objects.Queue)], Lock: o.Lock[:len(was.Objects.Lock)], Map: o.Map[:len(was.Objects.Map)]}
	now.Machine.Table = a.s.Machine.Table[:len(was.Table)]
	return told(now) == told(a.was) && bytes.Equal(a.room, a.roomWas)
}

// scribble turns all bytes of x, and of the room behind it.
func scribble(x []byte) {
	room := x[:cap(x)]
	for k := range room {
		room[k] ^= 0x7f
	}
}

// lists are all lists of bytes of s.
func lists(s api.State) [][]byte {
	l := append([][]byte{s.Machine.Objects.Reg}, s.Machine.Objects.Queue...)
	for _, p := range s.Machine.Objects.Map {
		l = append(l, p.Key, p.Val)
	}
	for _, x := range s.Machine.Table {
		l = append(l, x.Result.Val)
	}
	for _, e := range s.Rest {
		l = append(l, e.Cmd.Key, e.Cmd.Val, e.Cmd.Old)
	}
	return l
}

// few are states of each make, none of them long.
func few() []api.State {
	return []api.State{{}, {At: 300, Machine: small()}, {At: 5, Rest: row(3)}, {At: mostIndex - 3, Machine: big(), Rest: slices.Concat(row(2), []api.Entry{full()})}, {At: -1, Machine: small(), Rest: []api.Entry{ent(-1, top+1, api.Cmd{})}}}
}

// 15.1, rule 3: a state that is handed in stays, and so does the room behind its lists, which does not count; its bytes are new memory, and so is the room behind them.
func TestStateStays(t *testing.T) {
	for i, s := range few() {
		a := ask(s)
		one, two := blob.Encode(a.s), blob.Encode(a.s)
		if !a.stays() || !bytes.Equal(one, encodeBySentence(s)) {
			t.Errorf("%d: %x", i, one)
		}
		scribble(one)
		if !a.stays() || !bytes.Equal(two, encodeBySentence(s)) {
			t.Errorf("%d: the bytes are what was handed in, or answered ahead", i)
		}
		clear(a.room)
		clear(a.s.Rest)
		clear(a.s.Machine.Table)
		clear(a.s.Machine.Objects.Lock)
		if !bytes.Equal(two, encodeBySentence(s)) {
			t.Errorf("%d: what was handed in is kept", i)
		}
	}
}

// 15.1, rule 3: bytes that are handed in stay, and so does the room behind them, which does not count.
func TestBytesStay(t *testing.T) {
	for i, s := range slices.Concat(few(), well()) {
		form := encodeBySentence(s)
		for _, more := range [][]byte{nil, {0}, {0x5a, 0x5a}, form} {
			room := slices.Concat(form, more)
			was := bytes.Clone(room)
			want, is := decodeBySentence(form)
			got, ok := blob.Decode(room[:len(form)])
			if ok != is || !same(got, want) || !bytes.Equal(room, was) {
				t.Errorf("%d: %s, %v", i, told(got), ok)
			}
		}
		// A state whose last byte lies in the spare room is none.
		if got, ok := blob.Decode(form[:len(form)-1]); ok || told(got) != none {
			t.Errorf("%d: %s, %v", i, told(got), ok)
		}
	}
}

// 15.1, rule 3: a state that is read is in memory of its own, each list apart from the others and from the bytes.
func TestReadIsNew(t *testing.T) {
	for n, s := range few() {
		x := encodeBySentence(s)
		first, ok := blob.Decode(x)
		if !ok {
			continue
		}
		was := told(first)
		for i := range lists(first) {
			got, _ := blob.Decode(x)
			l, clean := lists(got), lists(first)
			scribble(l[i])
			for k := range l {
				if k != i && !bytes.Equal(l[k], clean[k]) {
					t.Errorf("%d: list %d is list %d", n, i, k)
				}
			}
			if told(first) != was || !bytes.Equal(x, encodeBySentence(s)) {
				t.Fatalf("%d: list %d is another's", n, i)
			}
		}
		got, _ := blob.Decode(x)
		clear(got.Rest[:cap(got.Rest)])
		clear(got.Machine.Table[:cap(got.Machine.Table)])
		clear(got.Machine.Objects.Queue[:cap(got.Machine.Objects.Queue)])
		clear(got.Machine.Objects.Lock[:cap(got.Machine.Objects.Lock)])
		clear(got.Machine.Objects.Map[:cap(got.Machine.Objects.Map)])
		if told(first) != was {
			t.Errorf("%d: a row is another's", n)
		}
		clear(x)
		if told(first) != was {
			t.Errorf("%d: the bytes are kept: %s, then %s", n, was, told(first))
		}
	}
}

// 15.2, rule 3: bytes of which a part is taken stay, and so does the room behind them, which does not count; a part is new memory, and so is the room behind it, which holds none of the bytes.
func TestPartIsNew(t *testing.T) {
	all := bytes.Repeat([]byte{0x5a}, 300)
	for n := range 140 {
		room := append(bytesOf(n), all[n:]...)
		was := bytes.Clone(room)
		for _, at := range []int{0, 1, 63, 64, 65, n - 65, n - 64, n - 63, n - 1, n} {
			one, ok := blob.Part(room[:n], at)
			two, _ := blob.Part(room[:n], at)
			want, is := partBySentence(was[:n], at)
			if behind := one[len(one):cap(one)]; ok != is || !bytes.Equal(one, want) || bytes.ContainsFunc(behind, func(r rune) bool { return r != 0 }) {
				t.Fatalf("of %d bytes from %d on: %x, and behind it %x", n, at, one, behind)
			}
			scribble(one)
			if !bytes.Equal(room, was) || !bytes.Equal(two, want) {
				t.Fatalf("of %d bytes from %d on: the part is another's", n, at)
			}
			clear(room)
			if !bytes.Equal(two, want) {
				t.Fatalf("of %d bytes from %d on: the bytes are kept", n, at)
			}
			copy(room, was)
		}
	}
}

// 15.1, 15.2, rule 6: the same is answered, whatever was asked ahead of it.
func TestNothingIsKept(t *testing.T) {
	for _, s := range few() {
		x := blob.Encode(s)
		was, ok := blob.Decode(x)
		part, _ := blob.Part(x, 3)
		for _, other := range few() {
			y := blob.Encode(other)
			blob.Decode(y)
			blob.Decode(y[1:])
			blob.Part(y, 3)
		}
		again, is := blob.Decode(x)
		partAgain, _ := blob.Part(x, 3)
		if !bytes.Equal(blob.Encode(s), x) || told(again) != told(was) || is != ok || !bytes.Equal(part, partAgain) {
			t.Errorf("another answer of %s", told(s))
		}
	}
}
