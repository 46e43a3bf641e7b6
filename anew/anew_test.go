package anew_test

import (
	"bytes"
	"fmt"
	"testing"

	"hocket/anew"
	"hocket/api"
)

// handed is a machine whose lists all lie in one room, with spare room behind each; with one set each list of bytes is the same one.
func handed(one bool) (m api.Machine, room []byte) {
	room = bytes.Repeat([]byte{0x5a}, 640)
	at := 0
	place := func(s string) []byte {
		if one {
			return append(room[:0:64], "one"...)
		}
		at += 64
		return append(room[at-64:at-64:at], s...)
	}
	m.Objects = api.Objects{Reg: place("reg"), Queue: [][]byte{place("q"), place(""), place("w")}[:2], Lock: []int{3, 1, 2}[:2]}
	m.Objects.Map = []api.Pair{{Key: place("k"), Val: place("v")}, {}}[:1]
	m.Table = []api.Last{{Sess: 1, Seq: 2, Result: api.Result{Err: 3, Val: place("r"), N: 4}}, {Sess: 5, Seq: 6, Result: api.Result{Val: place("s"), N: -1}}}
	return m, room
}

// lists are all lists of bytes of m.
func lists(m api.Machine) [][]byte {
	l := append([][]byte{m.Objects.Reg}, m.Objects.Queue...)
	for _, p := range m.Objects.Map {
		l = append(l, p.Key, p.Val)
	}
	for _, x := range m.Table {
		l = append(l, x.Result.Val)
	}
	return l
}

// told is m as a text, in which nil is an empty list.
func told(m api.Machine) string {
	s := fmt.Sprintf("%q %q %v %q", m.Objects.Reg, m.Objects.Queue, m.Objects.Lock, m.Objects.Map)
	for _, l := range m.Table {
		s += fmt.Sprintf(" %d %d %d %q %d", l.Sess, l.Seq, l.Result.Err, l.Result.Val, l.Result.N)
	}
	return s
}

// Rule 3: what is answered is what was handed in, nil as an empty list.
func TestAlike(t *testing.T) {
	for _, one := range []bool{false, true} {
		m, _ := handed(one)
		if got := anew.Machine(m); told(got) != told(m) {
			t.Errorf("%s, not %s", told(got), told(m))
		}
	}
	if got := anew.Machine(api.Machine{}); told(got) != told(api.Machine{}) {
		t.Error(told(got))
	}
	if got := anew.Each([]int{1, 2, 3}, func(n int) int { return 10 * n }); fmt.Sprint(got) != "[10 20 30]" {
		t.Error(got)
	}
	if got := anew.Each(nil, func(n int) int { return n }); len(got) != 0 {
		t.Error(got)
	}
}

// Rule 3: what is done to a list that is answered, and to the room behind it, is not seen in what was handed in, nor in another list of the answer.
func TestApart(t *testing.T) {
	for _, one := range []bool{false, true} {
		m, room := handed(one)
		was, roomWas := told(m), bytes.Clone(room)
		for i := range lists(m) {
			l := lists(anew.Machine(m))
			for k := range l[i][:cap(l[i])] {
				l[i][:cap(l[i])][k] ^= 0xff
			}
			for k, x := range lists(m) {
				if k != i && string(l[k]) != string(x) {
					t.Errorf("list %d is list %d", i, k)
				}
			}
		}
		got := anew.Machine(m)
		clear(got.Objects.Queue[:cap(got.Objects.Queue)])
		clear(got.Objects.Lock[:cap(got.Objects.Lock)])
		clear(got.Objects.Map[:cap(got.Objects.Map)])
		clear(got.Table[:cap(got.Table)])
		if told(m) != was || !bytes.Equal(room, roomWas) || string(m.Objects.Queue[:3][2]) == "" || m.Objects.Lock[:3][2] != 2 {
			t.Errorf("%s, not %s", told(m), was)
		}
	}
}

// Rule 3: what is done later to what was handed in is not seen in an answer.
func TestNothingIsKept(t *testing.T) {
	m, room := handed(false)
	got := anew.Machine(m)
	was := told(got)
	clear(room)
	clear(m.Objects.Queue)
	clear(m.Objects.Lock)
	clear(m.Objects.Map)
	clear(m.Table)
	if told(got) != was {
		t.Errorf("%s, then %s", was, told(got))
	}
}

// entry is an entry whose lists lie in one room, with spare room behind each; with one set each is the same list.
func entry(one bool) (e api.Entry, room []byte) {
	m, room := handed(one)
	l := lists(m)
	return api.Entry{Sess: 1, Seq: 2, Cmd: api.Cmd{Kind: 3, Who: 4, Key: l[0], Val: l[1], Old: l[3]}}, room
}

// Rule 3: an entry that is answered is what was handed in, in memory of its own, each list apart from the others.
func TestEntry(t *testing.T) {
	for _, one := range []bool{false, true} {
		e, room := entry(one)
		was, roomWas := fmt.Sprint(e), bytes.Clone(room)
		last := anew.Entry(e)
		if fmt.Sprint(last) != was {
			t.Errorf("%v, not %s", last, was)
		}
		for i := range 3 {
			got, clean := anew.Entry(e), anew.Entry(e)
			l := [][]byte{got.Cmd.Key, got.Cmd.Val, got.Cmd.Old}
			for k := range l[i][:cap(l[i])] {
				l[i][:cap(l[i])][k] ^= 0xff
			}
			for k, x := range [][]byte{clean.Cmd.Key, clean.Cmd.Val, clean.Cmd.Old} {
				if k != i && !bytes.Equal(l[k], x) {
					t.Errorf("list %d is list %d", i, k)
				}
			}
		}
		if fmt.Sprint(e) != was || !bytes.Equal(room, roomWas) {
			t.Errorf("%v, not %s", e, was)
		}
		clear(room)
		if fmt.Sprint(last) != was {
			t.Errorf("%s, then %v", was, last)
		}
	}
	if got := anew.Entry(api.Entry{}); fmt.Sprint(got) != fmt.Sprint(api.Entry{}) {
		t.Error(got)
	}
}

// message is a message whose lists lie in two rooms, with spare room behind each; with one set each list of bytes is the same one, and so is each row.
func message(one bool) (m api.Msg, room []byte, row []int) {
	e, room := entry(one)
	row = []int{3, 1, 2, 6, 4, 5}
	m = api.Msg{Kind: 1, From: 2, To: 3, View: 4, Inst: 5, Len: 6, Has: true, Members: 7, Source: 8, At: 9, Total: 10, Hop: 11, Seq: 12, Index: 13, Entry: e}
	m.Data, m.Have, m.Need = append(room[576:576], "data"...), row[:2:3], row[3:5]
	if one {
		m.Data, m.Need = e.Cmd.Key, m.Have
	}
	return m, room, row
}

// texts and rows are all lists of m.
func texts(m api.Msg) [][]byte {
	return [][]byte{m.Data, m.Entry.Cmd.Key, m.Entry.Cmd.Val, m.Entry.Cmd.Old}
}

func rows(m api.Msg) [][]int {
	return [][]int{m.Have, m.Need}
}

// turn turns all of l, and of the room behind it.
func turn[T byte | int](l []T) {
	for k := range l[:cap(l)] {
		l[:cap(l)][k] ^= 0x7f
	}
}

// Rule 3: a message that is answered is what was handed in, in memory of its own, each list apart from the others.
func TestMsg(t *testing.T) {
	for _, one := range []bool{false, true} {
		m, room, row := message(one)
		was, roomWas, rowWas := fmt.Sprint(m), bytes.Clone(room), fmt.Sprint(row)
		last := anew.Msg(m)
		if fmt.Sprint(last) != was {
			t.Errorf("%v, not %s", last, was)
		}
		for i := range texts(m) {
			l := texts(anew.Msg(m))
			turn(l[i])
			for k, x := range texts(m) {
				if k != i && !bytes.Equal(l[k], x) {
					t.Errorf("bytes %d are bytes %d", i, k)
				}
			}
		}
		for i := range rows(m) {
			l := rows(anew.Msg(m))
			turn(l[i])
			if k := 1 - i; fmt.Sprint(l[k]) != fmt.Sprint(rows(m)[k]) {
				t.Errorf("row %d is row %d", i, k)
			}
		}
		if fmt.Sprint(m) != was || !bytes.Equal(room, roomWas) || fmt.Sprint(row) != rowWas {
			t.Errorf("%v, not %s", m, was)
		}
		clear(room)
		clear(row)
		if fmt.Sprint(last) != was {
			t.Errorf("%s, then %v", was, last)
		}
	}
	if got := anew.Msg(api.Msg{}); fmt.Sprint(got) != fmt.Sprint(api.Msg{}) {
		t.Error(got)
	}
}
