package view_test

import (
	"math"
	"reflect"
	"slices"
	"testing"

	"hocket/api"
	"hocket/view"
)

// full is a message in which each list has room behind it.
func full(m api.Msg, i int) api.Msg {
	m.Data = append(make([]byte, 0, 8), byte(i), 7)
	m.Have = append(make([]int, 0, 8), i, 8)
	m.Need = append(make([]int, 0, 8), i, 9)
	m.Entry = api.Entry{Sess: i, Seq: 1, Cmd: api.Cmd{Kind: api.CCas, Key: []byte{'k'}, Val: append(make([]byte, 0, 8), 'v'), Old: []byte{'o'}}}
	return m
}

// copied is l in memory of its own, with the room behind each list.
func copied(l []api.Msg) []api.Msg {
	out := slices.Clone(l[:cap(l)])
	for i := range out {
		m := &out[i]
		m.Data = append([]byte(nil), m.Data[:cap(m.Data)]...)
		m.Have = append([]int(nil), m.Have[:cap(m.Have)]...)
		m.Need = append([]int(nil), m.Need[:cap(m.Need)]...)
		c := &m.Entry.Cmd
		c.Key, c.Val, c.Old = append([]byte(nil), c.Key...), append([]byte(nil), c.Val[:cap(c.Val)]...), append([]byte(nil), c.Old...)
	}
	return out
}

// 14.2, rule 3: what is handed in stays, in its order, with the room behind it, and that does not count.
func TestHandedInStays(t *testing.T) {
	next := dice()
	for range 500 {
		l := messages(next, 12)
		for i := range l {
			l[i] = full(l[i], i)
		}
		was := copied(l)
		for size := range l {
			for n := range 9 {
				got, clean := choose(l[:size], n), choose(was[:size:size], n)
				if got != clean {
					t.Fatalf("%v, without more behind %v", got, clean)
				}
			}
		}
		if !reflect.DeepEqual(copied(l), was) {
			t.Fatalf("changed to %v, was %v", l, was)
		}
	}
}

// 14.1, rule 3: who is in a mask is told in new memory, and so is the room behind it: what is done to one is not seen in another.
func TestMembersIsNew(t *testing.T) {
	for _, mask := range few() {
		one, two := view.Members(mask), view.Members(mask)
		room := one[:cap(one)]
		for i := range room {
			room[i] ^= 0x7f
		}
		if want := membersBySentence(mask); !slices.Equal(two, want) || !slices.Equal(view.Members(mask), want) {
			t.Fatalf("%d: %v, not %v", mask, two, want)
		}
	}
}

// 14.1, 14.2, rule 6: the same is answered, whatever was asked ahead of it.
func TestNothingIsKept(t *testing.T) {
	next := dice()
	for range 500 {
		l, other := messages(next, 10), messages(next, 10)
		n, mask, id, v := next(8), next(128), next(7), next(1<<20)
		was := choose(l, n)
		after, most, made := view.After(mask, id), view.Most(mask, n), view.Next(v, id)
		choose(other, 7-n)
		view.After(127-mask, 6-id)
		view.Most(127-mask, 7)
		view.Next(1<<30, 6-id)
		if got := choose(l, n); got != was || view.After(mask, id) != after || view.Most(mask, n) != most || view.Next(v, id) != made {
			t.Fatalf("another answer of %v, %d", l, n)
		}
	}
}

// 14.4: whatever the numbers are, no call panics, and each answers by its sentence.
func TestAnyNumbers(t *testing.T) {
	for _, a := range wide() {
		for _, b := range wide() {
			if view.Next(a, b) != nextBySentence(a, b) || view.Most(a, b) != mostBySentence(a, b) || view.After(a, b) != afterBySentence(a, b) {
				t.Fatalf("%d, %d: %d, %v, %d", a, b, view.Next(a, b), view.Most(a, b), view.After(a, b))
			}
		}
		for from := -1; from < 8; from++ {
			l := []api.Msg{st(from, a, -a), st(0, a, a), gone(1, -a, a), st(2, -a, -a), st(a, math.MaxInt, math.MaxInt), {Kind: a, From: 3, Has: true}}
			for n := -1; n < 9; n++ {
				chooses(t, l, n)
			}
			chooses(t, l, a)
		}
	}
}

// 14.4: a long row is chosen of, in time: a state far behind counts, too.
func TestLong(t *testing.T) {
	l := slices.Repeat([]api.Msg{{Kind: api.MJoin, From: 1, Inst: 9, Has: true}, st(0, 8, 5), st(9, 99, 9), gone(-1, 99, 9)}, 1<<15)
	if got := choose(l, 2); got != (chosen{}) {
		t.Errorf("%v of one node of two", got)
	}
	if got, want := choose(append(l, st(1, 8, 6)), 2), (chosen{3, 1, 6, true}); got != want {
		t.Errorf("%v, not %v", got, want)
	}
}

// 14.1, 14.4: whatever the numbers are, each call answers by its sentence.
func FuzzNumbers(f *testing.F) {
	for i, n := range wide() {
		f.Add(n, i)
		f.Add(i, n)
	}
	f.Fuzz(func(t *testing.T, a, b int) {
		if got, want := view.Next(a, b), nextBySentence(a, b); got != want {
			t.Errorf("Next(%d, %d) is %d, not %d", a, b, got, want)
		}
		if got, want := view.Who(a), whoBySentence(a); got != want {
			t.Errorf("Who(%d) is %d, not %d", a, got, want)
		}
		if got, want := view.Members(a), membersBySentence(a); !slices.Equal(got, want) {
			t.Errorf("Members(%d) is %v, not %v", a, got, want)
		}
		if got, want := view.Most(a, b), mostBySentence(a, b); got != want {
			t.Errorf("Most(%d, %d) is %v", a, b, got)
		}
		if got, want := view.After(a, b), afterBySentence(a, b); got != want {
			t.Errorf("After(%d, %d) is %d, not %d", a, b, got, want)
		}
		if got, want := view.Limit(a), limitBySentence(a); got != want {
			t.Errorf("Limit(%d) is %d, not %d", a, got, want)
		}
	})
}

// 14.2, 14.4: whatever the bytes are, each four of them a message, Choose answers by its sentence.
func FuzzChoose(f *testing.F) {
	f.Add([]byte(nil), 1)
	f.Add([]byte{2, 0, 8, 5}, 1)
	f.Add([]byte{2, 0, 8, 5, 130, 1, 9, 5, 2, 2, 9, 4}, 3)
	f.Add([]byte{2, 0, 8, 5, 2, 0, 9, 5, 1, 1, 9, 4, 130, 1, 8, 4}, 2)
	f.Add([]byte{2, 255, 8, 5, 2, 7, 9, 5, 2, 6, 200, 200, 2, 5, 200, 201, 2, 4, 200, 201, 2, 3, 0, 0}, 9)
	f.Fuzz(func(t *testing.T, b []byte, n int) {
		var l []api.Msg
		for ; len(b) >= 4; b = b[4:] {
			l = append(l, api.Msg{Kind: int(b[0] & 15), Has: b[0] < 128, From: int(int8(b[1])), Inst: int(int8(b[2])), Len: int(int8(b[3]))})
		}
		chooses(t, l, n)
		chooses(t, l, int(uint(n)%10))
	})
}
