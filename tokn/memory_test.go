package tokn_test

import (
	"bytes"
	"math"
	"slices"
	"testing"

	"hocket/api"
	"hocket/mesg"
	"hocket/tokn"
)

// asked is what Pass is given, whose lists lie in two rooms, with spare room behind each, and what these rooms were.
type asked struct {
	h             handing
	row, rowWas   []int
	room, roomWas []byte
	rowAt, at     int
}

// placeRow and place lay a list into its room, with spare room behind it.
func (a *asked) placeRow(l []int) []int {
	a.rowAt += 64
	return append(a.row[a.rowAt-64:a.rowAt-64:a.rowAt], l...)
}

func (a *asked) place(x []byte) []byte {
	a.at += 32
	return append(a.room[a.at-32:a.at-32:a.at], x...)
}

// ask lays h so, with bytes in each field of the token that has some.
func ask(h handing) *asked {
	a := &asked{h: h, row: slices.Repeat([]int{7}, 4*64), room: bytes.Repeat([]byte{0x5a}, 4*32)}
	m := &a.h.t
	m.Have, m.Need = a.placeRow(h.t.Have), a.placeRow(h.t.Need)
	a.h.has, a.h.missing = a.placeRow(h.has), a.placeRow(h.missing)
	m.Data = a.place([]byte("data"))
	m.Entry = api.Entry{Sess: 1, Seq: 2, Cmd: api.Cmd{Kind: 3, Key: a.place([]byte("key")), Val: a.place([]byte("val")), Old: a.place([]byte("old"))}}
	a.rowWas, a.roomWas = slices.Clone(a.row), bytes.Clone(a.room)
	return a
}

// stays tells if all that was handed in is what it was, with the room behind it.
func (a *asked) stays() bool {
	return slices.Equal(a.row, a.rowWas) && bytes.Equal(a.room, a.roomWas)
}

// few are tokens that are handed on, in which each list has something in it, or none has.
func few() []handing {
	base := token(9, []int{5, 9, 7}, []int{8, 6, 7, 3})
	one := []int{6, 7, 8, 9}
	return []handing{
		{base, 1, 1, 2, 9, 2, []int{6, 7}, []int{9, 10, 10, 1}},
		{base, 1, 9, 2, 9, 0, nil, []int{9, 6}},
		{base, 1, 0, 2, 20, 0, upTo(1, 9), nil},
		{token(9, []int{5}, upTo(6, 20)), 1, 0, 2, 5, 0, nil, upTo(6, 30)},
		{token(9, one, one), 1, 0, 2, 5, 0, one, one},
		{token(9, one, one), 1, 0, 2, 5, 0, nil, one},
		{api.Msg{}, 0, 0, 0, 0, 0, nil, nil},
	}
}

// rows and texts are all lists of a token that was handed on, and of what is to be sent again.
func rows(m api.Msg, again []int) [][]int {
	return [][]int{m.Have, m.Need, again}
}

func texts(m api.Msg) [][]byte {
	return [][]byte{m.Data, m.Entry.Cmd.Key, m.Entry.Cmd.Val, m.Entry.Cmd.Old}
}

// scribble turns all of l, and of the room behind it.
func scribble[T byte | int](l []T) {
	room := l[:cap(l)]
	for i := range room {
		room[i] ^= 0x7f
	}
}

// 17.1, 17.2, rule 3: what is handed in stays, and so does the room behind it, of which nothing is told.
func TestHandedInStays(t *testing.T) {
	for i, h := range few() {
		a := ask(h)
		tokn.Safe(a.h.t)
		tokn.Room(a.h.t)
		a.h.passes(t)
		numbers(t, a.h.t)
		if !a.stays() {
			t.Errorf("%d: changed to %v", i, a.row)
		}
	}
}

// 17.2, rule 3: what is answered is new memory, with the room behind it: what is done to one list is not seen in what was handed in, in another list, or in what is answered then.
func TestAnswersAreNew(t *testing.T) {
	for i, h := range few() {
		a := ask(h)
		want, wantAgain := a.h.passBySentence()
		want.Need, wantAgain = slices.Clone(want.Need), slices.Clone(wantAgain)
		for k := range rows(want, wantAgain) {
			got, again := a.h.pass()
			l := rows(got, again)
			scribble(l[k])
			for n, x := range rows(want, wantAgain) {
				if n != k && !slices.Equal(l[n], x) {
					t.Errorf("%d: list %d is list %d", i, k, n)
				}
			}
			if !a.stays() {
				t.Fatalf("%d: list %d is what was handed in", i, k)
			}
		}
		for k := range texts(want) {
			got, _ := a.h.pass()
			l := texts(got)
			scribble(l[k])
			for n, x := range texts(want) {
				if n != k && !bytes.Equal(l[n], x) {
					t.Errorf("%d: bytes %d are bytes %d", i, k, n)
				}
			}
			if !a.stays() {
				t.Fatalf("%d: bytes %d are what was handed in", i, k)
			}
		}
		a.h.passes(t)
	}
}

// 17.2, rule 3: where the same list is handed in for several, what is answered for one is apart from what is answered for another, and from what was handed in.
func TestSameListsPart(t *testing.T) {
	one, text := upTo(6, 9), []byte("text")
	for _, has := range [][]int{nil, one, one[:2]} {
		m := token(9, one, one)
		m.Data = text
		m.Entry.Cmd = api.Cmd{Key: text, Val: text, Old: text}
		h := handing{m, 1, 2, 3, 5, 0, has, one}
		want, wantAgain := h.passBySentence()
		for k := range rows(want, wantAgain) {
			got, again := h.pass()
			l := rows(got, again)
			scribble(l[k])
			for n, x := range rows(want, wantAgain) {
				if n != k && !slices.Equal(l[n], x) {
					t.Errorf("list %d is list %d", k, n)
				}
			}
		}
		for k := range texts(want) {
			got, _ := h.pass()
			l := texts(got)
			scribble(l[k])
			for n, x := range l {
				if n != k && string(x) != "text" {
					t.Errorf("bytes %d are bytes %d", k, n)
				}
			}
		}
		if !slices.Equal(one, upTo(6, 9)) || string(text) != "text" {
			t.Fatalf("changed to %v, %q", one, text)
		}
	}
}

// 17.2, rule 3: what is done later to what was handed in is not seen in what was answered.
func TestNothingIsKept(t *testing.T) {
	for i, h := range few() {
		a := ask(h)
		got, again := a.h.pass()
		same := ask(h)
		want, wantAgain := same.h.passBySentence()
		scribble(a.row)
		scribble(a.room)
		if !mesg.Same(got, want) || !slices.Equal(again, wantAgain) {
			t.Errorf("%d: %+v, %v, not %+v, %v", i, got, again, want, wantAgain)
		}
	}
}

// 17.1, rule 3: Have of the first token is new memory, with the room behind it.
func TestFirstIsNew(t *testing.T) {
	for members := -1; members < 9; members++ {
		one, two := tokn.First(8, members, 5), tokn.First(8, members, 5)
		scribble(one.Have)
		if want := firstBySentence(8, members, 5); !mesg.Same(two, want) || !mesg.Same(tokn.First(8, members, 5), want) {
			t.Errorf("%+v, not %+v", two, want)
		}
	}
}

// Rule 1: nil and an empty list are the same.
func TestNilIsEmpty(t *testing.T) {
	void := []int{}
	for _, h := range few() {
		h.passes(t)
		for _, x := range []handing{
			{token(9, nil, nil), 1, 0, 2, 5, 1, nil, nil}, {token(9, void, void), 1, 0, 2, 5, 1, void, void},
			{token(9, nil, h.t.Need), 1, 0, 2, 5, 1, void, h.missing}, {token(9, h.t.Have, void), 1, 0, 2, 5, 1, h.has, nil},
		} {
			x.passes(t)
			numbers(t, x.t)
		}
	}
}

// 17.4: whatever the numbers are, no call panics; what they answer is what their sentences say.
func TestAnyNumbers(t *testing.T) {
	l := wide()
	for i, a := range l {
		for k, b := range l {
			c, d := l[(i+k)%len(l)], l[(i*5+k*3)%len(l)]
			numbers(t, token(a, []int{b, c}, nil))
			numbers(t, token(a, []int{b}, nil))
			numbers(t, token(a, nil, []int{b}))
			handing{token(a, []int{b, c, d}, []int{d, b, a}), a, i%5 - 1, b, c, d, []int{b, 1}, []int{a, c, d}}.passes(t)
			handing{token(a, []int{b}, nil), b, c, d, a, b, nil, []int{a}}.passes(t)
		}
	}
	// Where no greater number is, Hop and Seq go on as the language's numbers do.
	m := token(math.MaxInt, []int{math.MaxInt}, nil)
	m.Hop = math.MaxInt
	handing{m, 0, 0, 0, 0, 4, nil, nil}.passes(t)
}

// 17.4: long lists are gone along in time, and told as the short ones are.
func TestLong(t *testing.T) {
	l := upTo(1, 1<<19)
	even := slices.DeleteFunc(slices.Clone(l), func(i int) bool { return i%2 > 0 })
	m := token(0, slices.Repeat([]int{3, 2}, 1<<18), l)
	got, again := tokn.Pass(m, 1, 1, 2, 4, 0, even, l)
	if !slices.Equal(again, even) || !slices.Equal(got.Need, []int{3, 5, 7, 9, 11, 13, 15, 17}) || len(got.Have) != 1<<19 || got.Have[1] != 4 || tokn.Safe(m) != 2 || tokn.Room(m) != mostGiven {
		t.Errorf("%d again, Need %v", len(again), got.Need)
	}
	if got, again = tokn.Pass(token(0, []int{1}, nil), 1, 0, 2, 1, 0, l, slices.Repeat([]int{0, 1, 3, 3, 2}, 1<<17)); len(again) > 0 || !slices.Equal(got.Need, []int{3, 2}) {
		t.Errorf("%d again, Need %v", len(again), got.Need)
	}
	if got, again = tokn.Pass(token(0, []int{1}, slices.Repeat([]int{9}, 1<<19)), 1, 0, 2, 1, 0, l[:8], l); len(again) > 0 || !slices.Equal(got.Need, slices.Repeat([]int{9}, 8)) {
		t.Errorf("%d again, Need %v", len(again), got.Need)
	}
}

// cut answers b's first numbers, each a byte with a sign, and what is behind them; how many there are stands ahead.
func cut(b []byte) (l []int, rest []byte) {
	if len(b) == 0 {
		return nil, nil
	}
	n := min(int(b[0]%16), len(b)-1)
	for _, x := range b[1 : 1+n] {
		l = append(l, int(int8(x)))
	}
	return l, b[1+n:]
}

// 17.1, 17.2, 17.4: whatever the numbers and lists are, each call answers by its sentence, and leaves what is handed in.
func FuzzToken(f *testing.F) {
	f.Add([]byte(nil), 0, 0, 0, 0)
	f.Add([]byte{2, 5, 9, 3, 7, 6, 8, 2, 8, 6, 2, 9, 10}, 9, 0, 7, 2)
	f.Add([]byte{1, 10, 6, 11, 12, 13, 14, 15, 16, 1, 12, 5, 14, 15, 16, 17, 18}, 20, 0, 10, 4)
	f.Add([]byte{0, 2, 0, 1, 0, 3, 255, 1, 2}, math.MaxInt, -1, math.MinInt, math.MaxInt)
	f.Add([]byte{1, 128, 1, 129, 1, 129, 1, 130}, math.MinInt, 9, math.MinInt, -1)
	f.Fuzz(func(t *testing.T, b []byte, seq, place, whole, fresh int) {
		have, b := cut(b)
		need, b := cut(b)
		has, b := cut(b)
		missing, _ := cut(b)
		for _, at := range []int{place, int(uint(place) % 16)} {
			a := ask(handing{token(seq, have, need), 1, at, 2, whole, fresh, has, missing})
			numbers(t, a.h.t)
			a.h.passes(t)
			if !a.stays() {
				t.Fatalf("changed to %v", a.row)
			}
		}
		if got, want := tokn.First(seq, place, whole), firstBySentence(seq, place, whole); !mesg.Same(got, want) {
			t.Errorf("%+v, not %+v", got, want)
		}
	})
}
