package sess_test

import (
	"bytes"
	"fmt"
	"math"
	"slices"
	"testing"

	"hocket/api"
	"hocket/objs"
	"hocket/sess"
)

// isNew, isSame and isBad are what is to be done, most how many sessions a table has ahead of being full, and top the greatest number, as the document lays them.
const (
	isNew  = 0
	isSame = 1
	isBad  = 2
	most   = 8
	top    = 1 << 30
)

// last is a session's last call, with its result's value as a text.
type last struct {
	sess, seq int
	err       api.Errno
	val       string
	n         int
}

// looked is what Look answers.
type looked struct {
	err  api.Errno
	val  string
	n    int
	what int
}

// table is l as a table, each value in memory of its own.
func table(l []last) []api.Last {
	var t []api.Last
	for _, x := range l {
		t = append(t, api.Last{Sess: x.sess, Seq: x.seq, Result: x.result()})
	}
	return t
}

// result is the result of x.
func (x last) result() api.Result {
	return api.Result{Err: x.err, Val: []byte(x.val), N: x.n}
}

// lasts is t, by texts.
func lasts(t []api.Last) []last {
	var l []last
	for _, x := range t {
		l = append(l, last{x.Sess, x.Seq, x.Result.Err, string(x.Result.Val), x.Result.N})
	}
	return l
}

// told is what Look answered, by texts.
func told(r api.Result, what int) looked {
	return looked{r.Err, string(r.Val), r.N, what}
}

// look and put are the calls, on texts.
func look(l []last, s, seq int) looked {
	return told(sess.Look(table(l), s, seq))
}

func put(l []last, x last) []last {
	return lasts(sess.Put(table(l), x.sess, x.seq, x.result()))
}

// of finds the last call of s in l.
func of(l []last, s int) (last, bool) {
	i := slices.IndexFunc(l, func(x last) bool { return x.sess == s })
	if i < 0 {
		return last{}, false
	}
	return l[i], true
}

// lookBySentence and putBySentence are the calls, word by word of promise 9.1, on a row that is a table.
func lookBySentence(l []last, s, seq int) looked {
	x, there := of(l, s)
	switch {
	case s < 1 || s > top || seq < 1 || seq > top:
		return looked{err: 10, what: isBad}
	case there && seq < x.seq:
		return looked{err: 8, what: isBad}
	case !there && len(l) >= most:
		return looked{err: 9, what: isBad}
	case there && seq == x.seq:
		return looked{x.err, x.val, x.n, isSame}
	}
	return looked{what: isNew}
}

func putBySentence(l []last, x last) []last {
	others := slices.DeleteFunc(slices.Clone(l), func(y last) bool { return y.sess == x.sess })
	return rising(append(others, x))
}

// rising is l by its sessions.
func rising(l []last) []last {
	slices.SortFunc(l, func(a, b last) int {
		if a.sess < b.sess {
			return -1
		}
		return 1
	})
	return l
}

// people are n sessions, each with a last call and a result of its own, whose numbers have others between them.
func people(n int) []last {
	var l []last
	for i := range n {
		l = append(l, last{10 + 10*i, 5 + i, api.Errno(i % 4), fmt.Sprint("v", i), i - 1})
	}
	return l
}

// tables are of each count about the bound, and of numbers about theirs.
func tables() [][]last {
	var l [][]last
	for n := range 12 {
		l = append(l, people(n))
	}
	l = append(l, people(40))
	for _, s := range []int{1, 2, top - 1, top} {
		for _, seq := range []int{1, 2, 500, top - 1, top} {
			x := last{s, seq, api.ErrFull, "x", 7}
			l = append(l, []last{x}, []last{{s, seq, 0, "", 0}}, rising(append(people(most-2), x)), rising(append(people(most-1), x)), rising(append(people(most), x)))
		}
	}
	return l
}

// numbers are those about the bounds, and about those of the tables.
func numbers() []int {
	l := []int{math.MinInt, math.MinInt + 1, -top - 1, -top, -1, 0, 1, 2, 3, top - 2, top - 1, top, top + 1, top + 2, 1<<31 - 1, 1 << 31, 1<<32 - 1, 1 << 32, 1<<32 + 1, 1<<32 + 10, 1 << 62, math.MaxInt - 1, math.MaxInt}
	for n := 4; n < 22; n++ {
		l = append(l, n)
	}
	return append(l, 70, 79, 80, 81, 90, 499, 500, 501)
}

// 9.1: the errors' numbers, those of what is to be done, and the bound.
func TestNumbers(t *testing.T) {
	if api.ErrOld != 8 || api.ErrSessions != 9 || api.ErrSeq != 10 || api.LNew != isNew || api.LSame != isSame || api.LBad != isBad || api.MaxSessions != most {
		t.Error(api.ErrOld, api.ErrSessions, api.ErrSeq, api.LNew, api.LSame, api.LBad, api.MaxSessions)
	}
}

// 9.1: answers of Look that are known.
func TestKnownLook(t *testing.T) {
	ab := []last{{3, 5, 0, "five", 4}, {7, 1, api.ErrLong, "", -1}}
	seven, eight, nine := people(7), people(8), people(9)
	seq, old, full := looked{err: 10, what: 2}, looked{err: 8, what: 2}, looked{err: 9, what: 2}
	for i, x := range []struct{ got, want looked }{
		{look(nil, 1, 1), looked{}},
		{look(nil, 1, top), looked{}},
		{look(nil, top, 1), looked{}},
		{look(nil, top, top), looked{}},
		{look(nil, 0, 1), seq},
		{look(nil, 1, 0), seq},
		{look(nil, 0, 0), seq},
		{look(nil, -1, 1), seq},
		{look(nil, 1, -1), seq},
		{look(nil, top+1, 1), seq},
		{look(nil, 1, top+1), seq},
		{look(ab, 3, 4), old},
		{look(ab, 3, 1), old},
		{look(ab, 3, 0), seq},
		{look(ab, 3, 5), looked{0, "five", 4, 1}},
		{look(ab, 3, 6), looked{}},
		{look(ab, 3, 50), looked{}},
		{look(ab, 3, top), looked{}},
		{look(ab, 3, top+1), seq},
		{look(ab, 7, 1), looked{1, "", -1, 1}},
		{look(ab, 7, 0), seq},
		{look(ab, 7, 2), looked{}},
		{look(ab, 5, 1), looked{}},
		{look(ab, 5, 5), looked{}},
		{look([]last{{1, top, 0, "t", 0}}, 1, top), looked{0, "t", 0, 1}},
		{look([]last{{1, top, 0, "t", 0}}, 1, top-1), old},
		{look([]last{{1, top, 0, "t", 0}}, 1, top+1), seq},
		{look(seven, 5, 1), looked{}},
		{look(eight, 5, 1), full},
		{look(eight, 85, 1), full},
		{look(eight, 5, 0), seq},
		{look(eight, 0, 1), seq},
		{look(eight, top+1, 1), seq},
		{look(eight, 80, 12), looked{3, "v7", 6, 1}},
		{look(eight, 80, 11), old},
		{look(eight, 80, 13), looked{}},
		{look(nine, 85, 1), full},
		{look(nine, 90, 13), looked{0, "v8", 7, 1}},
		{look(nine, 90, 14), looked{}},
	} {
		if x.got != x.want {
			t.Errorf("%d: %v, not %v", i, x.got, x.want)
		}
	}
}

// 9.1: answers of Put that are known.
func TestKnownPut(t *testing.T) {
	a, b, c := last{3, 5, 0, "five", 4}, last{7, 1, api.ErrLong, "", -1}, last{9, top, api.ErrFull, "t", 0}
	for i, x := range []struct{ got, want []last }{
		{put(nil, a), []last{a}},
		{put([]last{a}, b), []last{a, b}},
		{put([]last{b}, a), []last{a, b}},
		{put([]last{a, c}, b), []last{a, b, c}},
		{put([]last{a, b, c}, last{3, 6, 0, "six", 0}), []last{{3, 6, 0, "six", 0}, b, c}},
		{put([]last{a, b, c}, last{7, 9, 0, "", 2}), []last{a, {7, 9, 0, "", 2}, c}},
		{put([]last{a, b, c}, last{9, 1, 0, "", 0}), []last{a, b, {9, 1, 0, "", 0}}},
		{put([]last{a, b, c}, b), []last{a, b, c}},
		{put([]last{a, b, c}, last{7, 1, 0, "else", 5}), []last{a, {7, 1, 0, "else", 5}, c}},
		{put(people(7), last{45, 1, 0, "", 0}), slices.Insert(people(7), 4, last{45, 1, 0, "", 0})},
		{put(people(8), last{80, 99, 0, "n", 0}), append(people(7), last{80, 99, 0, "n", 0})},
		{put(people(8), last{85, 1, 0, "", 0}), append(people(8), last{85, 1, 0, "", 0})},
	} {
		if !slices.Equal(x.got, x.want) {
			t.Errorf("%d: %v, not %v", i, x.got, x.want)
		}
	}
}

// 9.1: whatever the table and the numbers are, the calls answer what their sentences say.
func TestBySentence(t *testing.T) {
	for _, l := range tables() {
		for _, s := range numbers() {
			for _, seq := range numbers() {
				if got, want := look(l, s, seq), lookBySentence(l, s, seq); got != want {
					t.Errorf("Look(%v, %d, %d): %v, not %v", l, s, seq, got, want)
				}
				for _, x := range []last{{s, seq, 0, "", 0}, {s, seq, api.ErrDiffers, "was", -1}} {
					if got, want := put(l, x), putBySentence(l, x); !slices.Equal(got, want) {
						t.Errorf("Put(%v, %v): %v, not %v", l, x, got, want)
					}
				}
			}
		}
	}
}

// 9.1: the eighth session is let in, the ninth is not, and those that are in it go on at any count.
func TestEachCount(t *testing.T) {
	for n := range 30 {
		l := people(n)
		want := looked{}
		if n >= most {
			want = looked{err: 9, what: isBad}
		}
		for _, s := range []int{1, 15, 10*n + 5, 10*n + 11, top} {
			if got := look(l, s, 1); got != want {
				t.Errorf("%d are in it, then %d: %v", n, s, got)
			}
		}
		for _, x := range l {
			if got := look(l, x.sess, x.seq+1); got != (looked{}) {
				t.Errorf("%d are in it, %d goes on: %v", n, x.sess, got)
			}
			if got := look(l, x.sess, x.seq); got != (looked{x.err, x.val, x.n, isSame}) {
				t.Errorf("%d are in it, %d asks again: %v", n, x.sess, got)
			}
			if got := look(l, x.sess, x.seq-1); got != (looked{err: 8, what: isBad}) {
				t.Errorf("%d are in it, %d is behind: %v", n, x.sess, got)
			}
		}
	}
}

// 9.1: each seq below the last is old, the last one is it, and each above is new.
func TestEachSeq(t *testing.T) {
	for at := 1; at < 70; at++ {
		l := []last{{4, 70 - at, 0, "below", 1}, {5, at, api.ErrNone, "is", 2}, {6, at + 1, 0, "above", 3}}
		for seq := -5; seq < 80; seq++ {
			want := looked{}
			switch {
			case seq < 1:
				want = looked{err: 10, what: isBad}
			case seq < at:
				want = looked{err: 8, what: isBad}
			case seq == at:
				want = looked{api.ErrNone, "is", 2, isSame}
			}
			if got := look(l, 5, seq); got != want {
				t.Errorf("behind %d, %d: %v, not %v", at, seq, got, want)
			}
		}
	}
}

// 9.1: whatever the order in which sessions are put, the table rises by them.
func TestEachPlace(t *testing.T) {
	want := []int{1, 2, 9, 10, 255, 256, 65536, top}
	// Steps that share no factor with the count go through all of it, each in another order.
	for _, step := range []int{1, 3, 5, 7} {
		for first := range want {
			var tab []api.Last
			for n := range want {
				s := want[(first+n*step)%len(want)]
				tab = sess.Put(tab, s, top-s+1, api.Result{N: s})
				if len(tab) != n+1 {
					t.Fatalf("%d put, then %d: %v", n, s, tab)
				}
			}
			for i, x := range tab {
				if x.Sess != want[i] || x.Seq != top-want[i]+1 || x.Result.N != want[i] {
					t.Fatalf("by %d from %d: %v", step, first, tab)
				}
			}
		}
	}
}

// 9.1: each part of a result is kept: all of its bits, and a value of any length.
func TestEachResult(t *testing.T) {
	var l []api.Result
	for err := api.OK; err <= api.ErrCall; err++ {
		l = append(l, api.Result{Err: err})
	}
	for at := range 64 {
		l = append(l, api.Result{N: 1 << at}, api.Result{N: -1 - 1<<at})
	}
	for n := range 40 {
		l = append(l, api.Result{Val: bytes.Repeat([]byte{byte(7*n + 1)}, n), N: n, Err: api.ErrDiffers})
	}
	for c := range 256 {
		l = append(l, api.Result{Val: []byte{byte(c), 0, byte(255 - c)}})
	}
	for _, x := range l {
		tab := sess.Put(table(people(3)), 20, 8, x)
		got, what := sess.Look(tab, 20, 8)
		if what != isSame || !objs.SameResult(got, x) {
			t.Errorf("%v: %v, %d", x, got, what)
		}
	}
}

// 9.1, rule 1: nil is an empty list, as a table and as a value.
func TestNilIsEmpty(t *testing.T) {
	for i, tab := range [][]api.Last{nil, {}, make([]api.Last, 0, 8), table(people(8))[:0]} {
		if got := told(sess.Look(tab, 10, 5)); got != (looked{}) {
			t.Errorf("%d: Look: %v", i, got)
		}
		for k, none := range [][]byte{nil, {}, make([]byte, 0, 8)} {
			next := sess.Put(tab, 10, 5, api.Result{Val: none, N: 3})
			if got := lasts(next); !slices.Equal(got, []last{{10, 5, 0, "", 3}}) {
				t.Errorf("%d, %d: Put: %v", i, k, got)
			}
			if got := told(sess.Look(next, 10, 5)); got != (looked{n: 3, what: isSame}) {
				t.Errorf("%d, %d: Look: %v", i, k, got)
			}
			held := []api.Last{{Sess: 1, Seq: 1, Result: api.Result{Val: none}}, {Sess: 2, Seq: 2}}
			if got := lasts(sess.Put(held, 10, 5, api.Result{})); !slices.Equal(got, []last{{1, 1, 0, "", 0}, {2, 2, 0, "", 0}, {10, 5, 0, "", 0}}) {
				t.Errorf("%d, %d: Put behind others: %v", i, k, got)
			}
		}
	}
}

// asked is a table and a call, whose values lie in one room, with spare room behind the table and behind each value.
type asked struct {
	t, was        []api.Last
	room, roomWas []byte
	s, seq        int
	r             api.Result
}

// ask lays l and x so; behind the table stand calls of the same room.
func ask(l []last, x last) *asked {
	a := &asked{room: bytes.Repeat([]byte{0x5a}, 64*(len(l)+4)), s: x.sess, seq: x.seq}
	at := 0
	place := func(x string) []byte {
		at += 64
		return append(a.room[at-64:at-64:at], x...)
	}
	for _, y := range append(slices.Clone(l), last{-3, 1, 0, "spare", 1}, last{-2, 1, 0, "room", 1}, last{-1, 1, 0, "behind", 1}) {
		a.t = append(a.t, api.Last{Sess: y.sess, Seq: y.seq, Result: api.Result{Err: y.err, Val: place(y.val), N: y.n}})
	}
	a.r = api.Result{Err: x.err, Val: place(x.val), N: x.n}
	a.was, a.roomWas = slices.Clone(a.t), bytes.Clone(a.room)
	a.t = a.t[:len(l)]
	return a
}

// alike tells if x and y are the same bytes in the same place.
func alike(x, y []byte) bool {
	return len(x) == len(y) && cap(x) == cap(y) && &x[:1][0] == &y[:1][0]
}

// stays tells if all that was handed in is what it was, with the room behind it.
func (a *asked) stays() bool {
	for i, x := range a.t[:len(a.was)] {
		y := a.was[i]
		// The place is held too: a table that is handed in is not to be filled with other lists of the same bytes.
		if x.Sess != y.Sess || x.Seq != y.Seq || x.Result.Err != y.Result.Err || x.Result.N != y.Result.N || !alike(x.Result.Val, y.Result.Val) {
			return false
		}
	}
	return bytes.Equal(a.room, a.roomWas)
}

// calls answers the table of Put and the lists of bytes that both calls answer: its values, and that of Look.
func (a *asked) calls() ([]api.Last, [][]byte) {
	next := sess.Put(a.t, a.s, a.seq, a.r)
	r, _ := sess.Look(a.t, a.s, a.seq)
	list := [][]byte{r.Val}
	for _, x := range next {
		list = append(list, x.Result.Val)
	}
	return next, list
}

// texts are l's lists as texts.
func texts(l [][]byte) []string {
	var out []string
	for _, x := range l {
		out = append(out, string(x))
	}
	return out
}

// handed are tables and calls, one for each way that a call goes.
func handed() []*asked {
	var l []*asked
	for _, n := range []int{0, 1, 3, 7, 8, 9} {
		for _, s := range []int{5, 10, 15, 30, 80, 90, 99} {
			for _, seq := range []int{0, 1, 5, 7, 12, 13, 20} {
				l = append(l, ask(people(n), last{s, seq, api.ErrThere, "new", 6}))
			}
		}
	}
	l = append(l, ask(people(3), last{20, 6, 0, "", 0}), ask([]last{{1, 1, 0, "", 0}}, last{1, 1, 0, "", 0}), ask([]last{{9, 1, 0, "nine", 0}, {4, 2, 0, "four", 0}, {9, 3, 0, "again", 0}}, last{9, 1, 0, "new", 0}))
	return l
}

// 9.1, rule 3: what is handed in stays, and so does the room behind it; of that room nothing is told.
func TestHandedInStays(t *testing.T) {
	for i, a := range handed() {
		next, _ := a.calls()
		if !a.stays() {
			t.Errorf("%d: what is handed in was changed", i)
		}
		if slices.ContainsFunc(next, func(x api.Last) bool { return x.Sess < 0 }) {
			t.Errorf("%d: the room behind is told: %v", i, next)
		}
	}
}

// 9.1, rule 3: what is done to an answered value, and to the room behind it, is not seen in what was handed in, nor in another value of an answer.
func TestAnswersAreNew(t *testing.T) {
	for n, a := range handed() {
		_, l := a.calls()
		for i := range l {
			_, l := a.calls()
			was := texts(l)
			room := l[i][:cap(l[i])]
			for k := range room {
				room[k] ^= 0xff
			}
			if !a.stays() {
				t.Fatalf("%d: answer %d is what was handed in", n, i)
			}
			for k := range l {
				if k != i && string(l[k]) != was[k] {
					t.Errorf("%d: answer %d is answer %d", n, i, k)
				}
			}
		}
	}
}

// 9.1, rule 3: what is laid into an answered table, and into the room behind it, is not seen in what was handed in; that room holds nothing of what was handed in.
func TestTablesAreNew(t *testing.T) {
	for n, a := range handed() {
		next, _ := a.calls()
		all := next[:cap(next)]
		for i, x := range all {
			room := x.Result.Val[:cap(x.Result.Val)]
			for k := range room {
				room[k] ^= 0xff
			}
			all[i] = api.Last{Sess: 77, Seq: 77, Result: api.Result{Err: api.ErrCall, Val: []byte("laid in"), N: 77}}
		}
		if !a.stays() {
			t.Errorf("%d: the table is what was handed in", n)
		}
	}
}

// 9.1, rule 3: what is done later to what was handed in is not seen in an answer.
func TestNothingIsKept(t *testing.T) {
	for i, a := range handed() {
		next, l := a.calls()
		was, list := lasts(next), texts(l)
		clear(a.room)
		clear(a.t[:cap(a.t)])
		if !slices.Equal(lasts(next), was) || !slices.Equal(texts(l), list) {
			t.Errorf("%d: an answer was changed", i)
		}
	}
}

// 9.1, rule 3: one list may be the value of each result that is handed in; what is answered is none the less apart.
func TestOneListInEachPlace(t *testing.T) {
	for _, size := range []int{1, 16, 17} {
		for _, s := range []int{5, 10, 20} {
			x := bytes.Repeat([]byte("x"), size)
			r := api.Result{Val: x}
			tab := []api.Last{{Sess: 10, Seq: 1, Result: r}, {Sess: 20, Seq: 1, Result: r}}
			next := sess.Put(tab, s, 1, r)
			got, _ := sess.Look(tab, s, 1)
			apart := [][]byte{got.Val}
			for _, y := range next {
				apart = append(apart, y.Result.Val)
			}
			for i := range apart {
				rest := texts(apart[i+1:])
				clear(apart[i])
				if !slices.Equal(texts(apart[i+1:]), rest) {
					t.Errorf("of %d bytes, %d: %d is one behind it", size, s, i)
				}
			}
			if string(x) != string(bytes.Repeat([]byte("x"), size)) {
				t.Errorf("of %d bytes, %d: what is handed in was changed", size, s)
			}
		}
	}
}

// served is objects with a table: what is asked of them goes by Look, and is put when it is done.
type served struct {
	s   api.Objects
	tab []api.Last
}

// ask answers what s is answered to c as its seq, and what is left.
func (a served) ask(s, seq int, c api.Cmd) (served, api.Result, int) {
	r, what := sess.Look(a.tab, s, seq)
	if what != isNew {
		return a, r, what
	}
	next, r := objs.Apply(a.s, c)
	return served{next, sess.Put(a.tab, s, seq, r)}, r, what
}

// asks are commands whose answer, or what they leave, is another when they are done again.
func asks() []api.Cmd {
	x := []byte("x")
	return []api.Cmd{
		{Kind: api.CPush, Val: x}, {Kind: api.CPop}, {Kind: api.CTake, Who: 3}, {Kind: api.CFree, Who: 3},
		{Kind: api.CPut, Key: x, Val: x}, {Kind: api.CDel, Key: x}, {Kind: api.CCas, Val: x}, {Kind: api.CCas, Old: x}, {Kind: api.CWrite, Val: bytes.Repeat(x, 17)}, {Kind: 77},
	}
}

// 9.2, W3: what is asked again, at once or behind what others asked, is not done again, and is answered alike.
func TestAskedAgain(t *testing.T) {
	l := asks()
	for n := range len(l) * len(l) * len(l) {
		one, other, third := l[n%len(l)], l[n/len(l)%len(l)], l[n/len(l)/len(l)]
		var a served
		a, first, what := a.ask(1, 5, one)
		if what != isNew {
			t.Fatalf("%d: %d", n, what)
		}
		left := lasts(a.tab)
		for range 3 {
			next, r, what := a.ask(1, 5, one)
			if what != isSame || !objs.SameResult(r, first) || !objs.Same(next.s, a.s) || !slices.Equal(lasts(next.tab), left) {
				t.Fatalf("%d, at once: %v, %d, not %v", n, r, what, first)
			}
		}
		b, second, _ := a.ask(2, 9, other)
		c, last, _ := b.ask(3, 1, third)
		for i, x := range []struct {
			sess, seq int
			c         api.Cmd
			want      api.Result
		}{{1, 5, one, first}, {3, 1, third, last}, {2, 9, other, second}, {1, 5, third, first}} {
			next, r, what := c.ask(x.sess, x.seq, x.c)
			if what != isSame || !objs.SameResult(r, x.want) || !objs.Same(next.s, c.s) {
				t.Fatalf("%d, again %d: %v, %d, not %v", n, i, r, what, x.want)
			}
		}
	}
}

// 9.2, W3: however often and in whatever order calls come, each is done once at most, in rising order of its session, and each answer to it that is no refusal is the same.
func TestOnce(t *testing.T) {
	type name struct{ sess, seq int }
	for seed := range 60 {
		var a served
		x := uint32(seed)*2654435761 + 1
		answered, lastOf := map[name]api.Result{}, map[int]int{}
		for n := range 1500 {
			x = x*1664525 + 1013904223
			s := 1 + int(x>>16%uint32(3+seed%9))
			who := name{s, max(0, lastOf[s]+int(x>>24%5)-2)}
			next, r, what := a.ask(who.sess, who.seq, asks()[x>>28%8])
			was, done := answered[who]
			_, there := lastOf[s]
			switch {
			case who.seq == 0:
				if what != isBad || r.Err != api.ErrSeq {
					t.Fatalf("%d, %d: %v is no call: %v, %d", seed, n, who, r, what)
				}
			case !there && len(lastOf) >= most:
				if what != isBad || r.Err != api.ErrSessions {
					t.Fatalf("%d, %d: %v is one too many: %v, %d", seed, n, who, r, what)
				}
			case who.seq > lastOf[s]:
				if what != isNew || done {
					t.Fatalf("%d, %d: %v is new: %v, %d", seed, n, who, r, what)
				}
				answered[who], lastOf[s] = r, who.seq
			case who.seq == lastOf[s]:
				if what != isSame || !done || !objs.SameResult(r, was) {
					t.Fatalf("%d, %d: %v was answered %v: %v, %d", seed, n, who, was, r, what)
				}
			default:
				if what != isBad || r.Err != api.ErrOld {
					t.Fatalf("%d, %d: %v is old: %v, %d", seed, n, who, r, what)
				}
			}
			if what != isNew && (!objs.Same(next.s, a.s) || !slices.Equal(lasts(next.tab), lasts(a.tab))) {
				t.Fatalf("%d, %d: %v was done again", seed, n, who)
			}
			a = next
			if len(a.tab) != len(lastOf) {
				t.Fatalf("%d, %d: %v, not %v", seed, n, a.tab, lastOf)
			}
		}
	}
}

// 9.2: a table as it was may be gone on from anew: two that go on from one do not meet.
func TestTwoFromOne(t *testing.T) {
	one := sess.Put(table([]last{{2, 1, 0, "b", 0}}), 3, 1, api.Result{Val: []byte("c")})
	left := sess.Put(one, 4, 1, api.Result{Val: []byte("l")})
	right := sess.Put(one, 4, 2, api.Result{Val: []byte("r")})
	over := sess.Put(left, 2, 2, api.Result{Val: []byte("o")})
	more := sess.Put(over, 5, 1, api.Result{Val: []byte("m")})
	for i, x := range []struct {
		got  []api.Last
		want []last
	}{
		{one, []last{{2, 1, 0, "b", 0}, {3, 1, 0, "c", 0}}},
		{left, []last{{2, 1, 0, "b", 0}, {3, 1, 0, "c", 0}, {4, 1, 0, "l", 0}}},
		{right, []last{{2, 1, 0, "b", 0}, {3, 1, 0, "c", 0}, {4, 2, 0, "r", 0}}},
		{over, []last{{2, 2, 0, "o", 0}, {3, 1, 0, "c", 0}, {4, 1, 0, "l", 0}}},
		{more, []last{{2, 2, 0, "o", 0}, {3, 1, 0, "c", 0}, {4, 1, 0, "l", 0}, {5, 1, 0, "m", 0}}},
	} {
		if !slices.Equal(lasts(x.got), x.want) {
			t.Errorf("%d: %v, not %v", i, lasts(x.got), x.want)
		}
	}
}

// 9.2, rule 6: the same calls answer the same, whatever was asked ahead of them.
func TestSameAgain(t *testing.T) {
	known := []last{{1, 4, 0, "a", 0}, {3, 2, api.ErrNone, "c", 9}}
	for _, l := range tables() {
		for _, s := range numbers() {
			look(l, s, 5)
			put(l, last{s, 5, 0, "x", 1})
			if got := look(known, 3, 2); got != (looked{api.ErrNone, "c", 9, isSame}) {
				t.Fatalf("after %v, %d: %v", l, s, got)
			}
			if got := look(known, 2, 1); got != (looked{}) {
				t.Fatalf("after %v, %d: %v", l, s, got)
			}
			if got := put(known, last{2, 1, 0, "b", 1}); !slices.Equal(got, []last{known[0], {2, 1, 0, "b", 1}, known[1]}) {
				t.Fatalf("after %v, %d: %v", l, s, got)
			}
		}
	}
}

// 9.1: a row that is no table, for it does not rise or has a session twice, or has numbers that are none: what has no number is refused as that, whatever stands there, the first of a session is told, and what is put is its only one then.
func TestNoTable(t *testing.T) {
	l := []last{{9, 1, 0, "nine", 0}, {4, 2, 0, "four", 0}, {9, 3, 0, "again", 0}, {0, 0, 0, "none", 0}, {5, -1, 0, "below", 0}, {6, top + 1, 0, "above", 0}}
	for i, x := range []struct {
		s, seq int
		want   looked
	}{
		{9, 1, looked{val: "nine", what: isSame}}, {9, 2, looked{}}, {4, 1, looked{err: 8, what: isBad}},
		{0, 0, looked{err: 10, what: isBad}}, {0, 1, looked{err: 10, what: isBad}}, {5, -1, looked{err: 10, what: isBad}}, {5, 1, looked{}}, {6, top + 1, looked{err: 10, what: isBad}}, {6, top, looked{err: 8, what: isBad}},
	} {
		if got := look(l, x.s, x.seq); got != x.want {
			t.Errorf("%d: %v, not %v", i, got, x.want)
		}
	}
	next := put(l, last{9, 5, 0, "new", 0})
	at, there := of(next, 9)
	if n := len(next); n != len(l)-1 || !there || at.val != "new" {
		t.Error(next)
	}
}

// 9.3: no call panics of lists that are nil, or of any length, nor of any number.
func TestNoPanic(t *testing.T) {
	huge := bytes.Repeat([]byte("z"), 1<<16)
	many := make([]api.Last, 1<<10)
	for i := range many {
		many[i].Sess = (i*7919)%512 - 100
	}
	for _, tab := range [][]api.Last{nil, {}, {{}}, {{Sess: 1, Seq: 1, Result: api.Result{Val: huge}}}, {{Sess: math.MaxInt, Seq: math.MinInt}, {Sess: math.MinInt, Seq: math.MaxInt}}, many} {
		for _, s := range numbers() {
			for _, seq := range []int{math.MinInt, -1, 0, 1, top, top + 1, math.MaxInt} {
				for _, val := range [][]byte{nil, huge[:100]} {
					next := sess.Put(tab, s, seq, api.Result{Err: math.MaxInt, Val: val, N: math.MinInt})
					i := slices.IndexFunc(next, func(x api.Last) bool { return x.Sess == s })
					if i < 0 || next[i].Seq != seq || next[i].Result.N != math.MinInt || !bytes.Equal(next[i].Result.Val, val) {
						t.Errorf("%d, %d, in %d: %d", s, seq, len(tab), i)
					}
					r, what := sess.Look(tab, s, seq)
					if what < isNew || what > isBad || what == isBad && r.Err == api.OK {
						t.Errorf("%d, %d, in %d: %v, %d", s, seq, len(tab), r, what)
					}
				}
			}
		}
	}
}

// 9.1 to 9.3: whatever is asked, no call panics, and all end and answer as the promises say: each three bytes are a session, how far its seq lies from the last one, and its result.
func FuzzTable(f *testing.F) {
	f.Add([]byte(nil), 1)
	f.Add([]byte{1, 3, 0x12, 1, 2, 0x12, 1, 1, 0x12, 2, 3, 0x31}, 1)
	f.Add([]byte{1, 3, 0, 2, 3, 0, 3, 3, 0, 4, 3, 0, 5, 3, 0, 6, 3, 0, 7, 3, 0, 8, 3, 0, 9, 3, 0, 1, 4, 0}, top-9)
	f.Fuzz(func(t *testing.T, acts []byte, from int) {
		var l []last
		var tab []api.Last
		// A hundred calls fill the table many times over; more of them would but take longer.
		for i := 0; i+2 < min(len(acts), 300); i += 3 {
			s := from + int(acts[i])%16
			was, there := of(l, s)
			if !there {
				was.seq = from
			}
			x := last{s, was.seq + int(acts[i+1])%5 - 2, api.Errno(acts[i+2] % 8), string(bytes.Repeat([]byte{acts[i+2]}, int(acts[i+2]>>4))), int(acts[i+2])}
			got, want := told(sess.Look(tab, x.sess, x.seq)), lookBySentence(l, x.sess, x.seq)
			if got != want {
				t.Fatalf("Look(%v, %d, %d): %v, not %v", l, x.sess, x.seq, got, want)
			}
			if got.what != isNew && acts[i+1] < 200 {
				continue
			}
			next := sess.Put(tab, x.sess, x.seq, x.result())
			if want := putBySentence(l, x); !slices.Equal(lasts(next), want) || !slices.Equal(lasts(tab), l) {
				t.Fatalf("Put(%v, %v): %v, not %v; then %v", l, x, lasts(next), want, lasts(tab))
			}
			tab, l = next, lasts(next)
		}
	})
}
