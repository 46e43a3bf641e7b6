package lock_test

import (
	"fmt"
	"math"
	"slices"
	"testing"

	"hocket/api"
	"hocket/lock"
)

// most is how many may have a lock, or wait for it.
const most = 5

// answer is what a call answers; Owner's row is the one that was handed in.
type answer struct {
	row []int
	err api.Errno
	val string
	n   int
}

// String tells an answer.
func (a answer) String() string {
	return fmt.Sprintf("row %v, error %d, Val %q, N %d", a.row, a.err, a.val, a.n)
}

// same tells if a is b, in all that is answered.
func (a answer) same(b answer) bool {
	return slices.Equal(a.row, b.row) && a.err == b.err && a.val == b.val && a.n == b.n
}

// gone is what a call answered.
func gone(s []int, r api.Result) answer {
	return answer{s, r.Err, string(r.Val), r.N}
}

// take, free and owner are the calls.
func take(l []int, who int) answer {
	return gone(lock.Take(l, who))
}

func free(l []int, who int) answer {
	return gone(lock.Free(l, who))
}

func owner(l []int) answer {
	return gone(l, lock.Owner(l))
}

// takeBySentence, freeBySentence and ownerBySentence are the calls, word by word of promise 6.1.
func takeBySentence(l []int, who int) answer {
	switch {
	case slices.Contains(l, who):
		return answer{row: l, err: 6}
	case len(l) >= most:
		return answer{row: l, err: 3}
	}
	return answer{row: append(slices.Clone(l), who), n: len(l)}
}

func freeBySentence(l []int, who int) answer {
	if !slices.Contains(l, who) {
		return answer{row: l, err: 5}
	}
	rest := slices.DeleteFunc(slices.Clone(l), func(x int) bool { return x == who })
	if len(rest) == 0 {
		return answer{n: -1}
	}
	return answer{row: rest, n: rest[0]}
}

func ownerBySentence(l []int) answer {
	if len(l) == 0 {
		return answer{row: l, err: 5}
	}
	return answer{row: l, n: l[0]}
}

// row is n numbers, rising from first on.
func row(first, n int) []int {
	var l []int
	for i := range n {
		l = append(l, first+i)
	}
	return l
}

// people are numbers that may be taken one for another, or lie at a bound.
func people() []int {
	return []int{0, 1, 2, 3, 4, 5, 6, 7, 8, -1, -2, -5, 127, 128, 255, 256, 257, 998, 999, 1000, 1001, 65535, 65536, 1 << 30, 1<<31 - 1, 1 << 31, 1<<32 - 1, 1 << 32, 1<<32 + 1, math.MaxInt, math.MaxInt - 1, math.MinInt, math.MinInt + 1}
}

// rows are locks of each length about the bound, rising, falling, and of those that no call would have let in.
func rows() [][]int {
	var l [][]int
	for n := range 9 {
		falling := row(0, n)
		slices.Reverse(falling)
		l = append(l, row(0, n), falling, row(-3, n), row(997, n), row(math.MaxInt-8, n), make([]int, n), slices.Repeat([]int{7}, n))
	}
	l = append(l, row(0, 64), row(0, 1000), []int{1, 2, 1}, []int{2, 1, 1, 3, 1}, []int{-1, 0, -1, 0, -1, 0})
	for _, who := range people() {
		l = append(l, []int{who}, []int{7, who}, []int{who, 7, 3}, []int{10, 11, 12, 13, who})
	}
	return l
}

// 6.1: the errors' numbers, and the bound.
func TestNumbers(t *testing.T) {
	if api.ErrFull != 3 || api.ErrNone != 5 || api.ErrThere != 6 || api.MaxLock != most {
		t.Error(api.ErrFull, api.ErrNone, api.ErrThere, api.MaxLock)
	}
}

// 6.1: answers that are known.
func TestKnown(t *testing.T) {
	for i, x := range []struct{ got, want answer }{
		{take(nil, 7), answer{[]int{7}, api.OK, "", 0}},
		{take(nil, 0), answer{[]int{0}, api.OK, "", 0}},
		{take(nil, -1), answer{[]int{-1}, api.OK, "", 0}},
		{take([]int{7}, 0), answer{[]int{7, 0}, api.OK, "", 1}},
		{take([]int{0}, 7), answer{[]int{0, 7}, api.OK, "", 1}},
		{take([]int{7}, 7), answer{[]int{7}, api.ErrThere, "", 0}},
		{take([]int{0}, 0), answer{[]int{0}, api.ErrThere, "", 0}},
		{take([]int{3, 7}, 7), answer{[]int{3, 7}, api.ErrThere, "", 0}},
		{take([]int{9, 8, 7, 6}, 5), answer{[]int{9, 8, 7, 6, 5}, api.OK, "", 4}},
		{take([]int{9, 8, 7, 6}, 6), answer{[]int{9, 8, 7, 6}, api.ErrThere, "", 0}},
		{take([]int{9, 8, 7, 6, 5}, 4), answer{[]int{9, 8, 7, 6, 5}, api.ErrFull, "", 0}},
		{take([]int{9, 8, 7, 6, 5}, 9), answer{[]int{9, 8, 7, 6, 5}, api.ErrThere, "", 0}},
		{take([]int{9, 8, 7, 6, 5}, 7), answer{[]int{9, 8, 7, 6, 5}, api.ErrThere, "", 0}},
		{take([]int{9, 8, 7, 6, 5}, 5), answer{[]int{9, 8, 7, 6, 5}, api.ErrThere, "", 0}},
		{take([]int{9, 8, 7, 6, 5, 4}, 3), answer{[]int{9, 8, 7, 6, 5, 4}, api.ErrFull, "", 0}},
		{take([]int{9, 8, 7, 6, 5, 4}, 4), answer{[]int{9, 8, 7, 6, 5, 4}, api.ErrThere, "", 0}},
		{free(nil, 7), answer{nil, api.ErrNone, "", 0}},
		{free(nil, 0), answer{nil, api.ErrNone, "", 0}},
		{free(nil, -1), answer{nil, api.ErrNone, "", 0}},
		{free([]int{7}, 7), answer{nil, api.OK, "", -1}},
		{free([]int{0}, 0), answer{nil, api.OK, "", -1}},
		{free([]int{-1}, -1), answer{nil, api.OK, "", -1}},
		{free([]int{7}, 0), answer{[]int{7}, api.ErrNone, "", 0}},
		{free([]int{7, 0}, 7), answer{[]int{0}, api.OK, "", 0}},
		{free([]int{7, 0}, 0), answer{[]int{7}, api.OK, "", 7}},
		{free([]int{7, -1}, 7), answer{[]int{-1}, api.OK, "", -1}},
		{free([]int{3, 1, 2}, 3), answer{[]int{1, 2}, api.OK, "", 1}},
		{free([]int{3, 1, 2}, 1), answer{[]int{3, 2}, api.OK, "", 3}},
		{free([]int{3, 1, 2}, 2), answer{[]int{3, 1}, api.OK, "", 3}},
		{free([]int{3, 1, 2}, 4), answer{[]int{3, 1, 2}, api.ErrNone, "", 0}},
		{free([]int{9, 8, 7, 6, 5}, 9), answer{[]int{8, 7, 6, 5}, api.OK, "", 8}},
		{free([]int{9, 8, 7, 6, 5, 4}, 4), answer{[]int{9, 8, 7, 6, 5}, api.OK, "", 9}},
		{owner(nil), answer{nil, api.ErrNone, "", 0}},
		{owner([]int{7}), answer{[]int{7}, api.OK, "", 7}},
		{owner([]int{0}), answer{[]int{0}, api.OK, "", 0}},
		{owner([]int{-1}), answer{[]int{-1}, api.OK, "", -1}},
		{owner([]int{5, 6}), answer{[]int{5, 6}, api.OK, "", 5}},
		{owner([]int{6, 5, 9, 1, 2, 3}), answer{[]int{6, 5, 9, 1, 2, 3}, api.OK, "", 6}},
	} {
		if !x.got.same(x.want) {
			t.Errorf("%d: %v, not %v", i, x.got, x.want)
		}
	}
}

// 6.1: whatever the lock and the number are, the calls answer what their sentences say.
func TestBySentence(t *testing.T) {
	for _, l := range rows() {
		if got, want := owner(l), ownerBySentence(l); !got.same(want) {
			t.Errorf("Owner(%v): %v, not %v", l, got, want)
		}
		for _, who := range people() {
			if got, want := take(l, who), takeBySentence(l, who); !got.same(want) {
				t.Errorf("Take(%v, %d): %v, not %v", l, who, got, want)
			}
			if got, want := free(l, who), freeBySentence(l, who); !got.same(want) {
				t.Errorf("Free(%v, %d): %v, not %v", l, who, got, want)
			}
		}
	}
}

// 6.1: the fifth is let in, the sixth is not, and a place that became free is taken anew, behind all.
func TestEachCount(t *testing.T) {
	for n := range 40 {
		s, r := lock.Take(row(0, n), 77)
		if n < most && (r.Err != api.OK || r.N != n || len(s) != n+1 || s[n] != 77) {
			t.Errorf("%d, and one more: %v", n, gone(s, r))
		}
		if n >= most && (r.Err != api.ErrFull || r.N != 0 || !slices.Equal(s, row(0, n))) {
			t.Errorf("%d are full: %v", n, gone(s, r))
		}
	}
	s := row(0, most)
	for i := range 20 {
		s, _ = lock.Free(s, s[i%most])
		next, r := lock.Take(s, 100+i)
		if r.Err != api.OK || r.N != most-1 || next[most-1] != 100+i {
			t.Fatalf("place %d: %v", i, gone(next, r))
		}
		s = next
		if _, r := lock.Take(s, 50); r.Err != api.ErrFull {
			t.Fatalf("behind place %d: %v", i, r)
		}
	}
}

// 6.1: from each place of each length one is told as there and may go; the others stay in their order, and the first of them has it.
func TestEachPlace(t *testing.T) {
	for n := 1; n < 12; n++ {
		for at := range n {
			l := row(20, n)
			if got, want := take(l, 20+at), (answer{l, api.ErrThere, "", 0}); !got.same(want) {
				t.Errorf("Take of place %d of %d: %v", at, n, got)
			}
			want := answer{row: append(row(20, at), row(21+at, n-at-1)...), n: 20}
			if at == 0 {
				want.n = 21
			}
			if n == 1 {
				want.n = -1
			}
			got := free(l, 20+at)
			if !got.same(want) {
				t.Errorf("Free of place %d of %d: %v, not %v", at, n, got, want)
			}
			if again := free(got.row, 20+at); !again.same(answer{row: want.row, err: api.ErrNone}) {
				t.Errorf("Free of place %d of %d, again: %v", at, n, again)
			}
		}
	}
}

// 6.1: who goes is not in it any more, nor has it, of a row too that no call would have let in.
func TestWhoGoesIsGone(t *testing.T) {
	for _, l := range rows() {
		for _, who := range l {
			s, r := lock.Free(l, who)
			if r.Err != api.OK || slices.Contains(s, who) {
				t.Fatalf("Free(%v, %d): %v", l, who, gone(s, r))
			}
			if _, r := lock.Free(s, who); r.Err != api.ErrNone {
				t.Fatalf("Free(%v, %d), again: %v", l, who, r)
			}
			was := lock.Owner(s)
			if len(s) == 0 && (r.N != -1 || was.Err != api.ErrNone) {
				t.Fatalf("Free(%v, %d): %v, and Owner %v", l, who, r, was)
			}
			if len(s) > 0 && (r.N != was.N || was.N != s[0]) {
				t.Fatalf("Free(%v, %d): %v, and Owner %v", l, who, r, was)
			}
		}
	}
}

// 6.1, rule 1: nil is an empty list.
func TestNilIsEmpty(t *testing.T) {
	for i, s := range [][]int{nil, {}, make([]int, 0, 8), row(4, 5)[:0]} {
		if got := owner(s); !got.same(answer{err: api.ErrNone}) {
			t.Errorf("%d: Owner: %v", i, got)
		}
		for _, who := range people() {
			if got := take(s, who); !got.same(answer{row: []int{who}}) {
				t.Errorf("%d: Take: %v", i, got)
			}
			if got := free(s, who); !got.same(answer{err: api.ErrNone}) {
				t.Errorf("%d: Free: %v", i, got)
			}
		}
	}
}

// asked is a lock with room behind it, in which numbers stand, and a number.
type asked struct {
	s, was []int
	who    int
}

// ask lays l so.
func ask(l []int, who int) *asked {
	a := &asked{who: who}
	a.s = append(append(make([]int, 0, len(l)+3), l...), 71, 72, 73)
	a.was = slices.Clone(a.s)
	a.s = a.s[:len(l)]
	return a
}

// stays tells if all that was handed in is what it was, with the room behind it.
func (a *asked) stays() bool {
	return slices.Equal(a.s[:len(a.was)], a.was)
}

// calls answers the rows that each call answers of what a holds, and what was answered of all three.
func (a *asked) calls() (rows [][]int, all []answer) {
	p, pr := lock.Take(a.s, a.who)
	o, or := lock.Free(a.s, a.who)
	r := lock.Owner(a.s)
	return [][]int{p, o}, []answer{gone(slices.Clone(p), pr), gone(slices.Clone(o), or), gone(nil, r)}
}

// handed are locks and numbers, one for each way that a call goes.
func handed() []*asked {
	return []*asked{
		ask(nil, 3), ask(nil, 71), ask([]int{3}, 3), ask([]int{3}, 4), ask([]int{3}, 71), ask([]int{3, 4, 5}, 3), ask([]int{3, 4, 5}, 4), ask([]int{3, 4, 5}, 5), ask([]int{3, 4, 5}, 72),
		ask(row(0, 4), 4), ask(row(0, 4), 3), ask(row(0, 5), 5), ask(row(0, 5), 0), ask(row(0, 5), 4), ask(row(0, 6), 6), ask(row(0, 6), 2), ask([]int{3, 4, 3}, 3),
	}
}

// 6.1, rule 3: what is handed in stays, and so does the room behind it; of that room nothing is told.
func TestHandedInStays(t *testing.T) {
	for i, a := range handed() {
		_, all := a.calls()
		if !a.stays() {
			t.Errorf("%d: what is handed in was changed", i)
		}
		for k, want := range []answer{takeBySentence(slices.Clone(a.s), a.who), freeBySentence(slices.Clone(a.s), a.who)} {
			if !all[k].same(want) {
				t.Errorf("%d: answer %d: %v, not %v", i, k, all[k], want)
			}
		}
	}
}

// 6.1, rule 3: what is laid into an answered row, and into the room behind it, is not seen in what was handed in, nor in another answer.
func TestAnswersAreNew(t *testing.T) {
	for n := range handed() {
		for i := range 2 {
			a := handed()[n]
			rows, all := a.calls()
			room := rows[i][:cap(rows[i])]
			for k := range room {
				room[k] = 500 + k
			}
			if !a.stays() {
				t.Errorf("%d: row %d is what was handed in", n, i)
			}
			if !slices.Equal(rows[1-i], all[1-i].row) {
				t.Errorf("%d: row %d is the other", n, i)
			}
		}
	}
}

// 6.1, rule 3: what is done later to what was handed in is not seen in an answer.
func TestNothingIsKept(t *testing.T) {
	for i, a := range handed() {
		rows, all := a.calls()
		room := a.s[:cap(a.s)]
		for k := range room {
			room[k] = 600 + k
		}
		for k := range rows {
			if !slices.Equal(rows[k], all[k].row) {
				t.Errorf("%d: row %d was changed", i, k)
			}
		}
	}
}

// act is a call: Owner, or Take or Free of who.
type act struct {
	kind string
	who  int
}

// do answers the lock that the act leaves, what was answered, and what its sentence says.
func (a act) do(s []int) (next []int, got, want answer) {
	was := slices.Clone(s)
	switch a.kind {
	case "take":
		n, r := lock.Take(s, a.who)
		return n, gone(n, r), takeBySentence(was, a.who)
	case "free":
		n, r := lock.Free(s, a.who)
		return n, gone(n, r), freeBySentence(was, a.who)
	}
	return s, gone(s, lock.Owner(s)), ownerBySentence(was)
}

// 6.2, W1: each order of a few calls is that of one object: each answers by what those ahead of it left, and by nothing else.
func TestOneOrder(t *testing.T) {
	l := []act{{"owner", 0}, {"take", 0}, {"take", 1}, {"take", 2}, {"free", 0}, {"free", 1}, {"free", 2}}
	for _, start := range [][]int{nil, {1}, {2, 1}, row(0, 5), row(1, 4), row(3, 4), row(3, 5)} {
		for n := range len(l) * len(l) * len(l) * len(l) {
			s := slices.Clone(start)
			// The digits of n say which four calls are made; each is made, those of digit 0 too.
			for at, k := 0, n; at < 4; at, k = at+1, k/len(l) {
				next, got, want := l[k%len(l)].do(s)
				if !got.same(want) {
					t.Fatalf("of %v calls %d, the one at %d: %v, not %v", start, n, at, got, want)
				}
				s = next
			}
		}
	}
}

// 6.2, W1: one has it: who took it ahead of the others, until they give it back; then who waits longest of those left.
func TestOneHasIt(t *testing.T) {
	for seed := range 40 {
		var s, came []int
		x := uint32(seed)*2654435761 + 1
		for n := range 2000 {
			x = x*1664525 + 1013904223
			who := int(x>>16) % (3 + seed%6)
			at := slices.Index(came, who)
			if x>>30%2 == 0 {
				next, r := lock.Take(s, who)
				if let := at < 0 && len(came) < most; let != (r.Err == api.OK) || let && r.N != len(came) {
					t.Fatalf("%d, act %d: %v take, then %d: %v", seed, n, came, who, r)
				}
				if r.Err == api.OK {
					came = append(came, who)
				}
				s = next
			} else {
				next, r := lock.Free(s, who)
				if (at >= 0) != (r.Err == api.OK) {
					t.Fatalf("%d, act %d: %v are in it, %d goes: %v", seed, n, came, who, r)
				}
				if at >= 0 {
					came = slices.Delete(came, at, at+1)
				}
				s = next
			}
			if r := lock.Owner(s); len(came) == 0 && r.Err != api.ErrNone || len(came) > 0 && (r.Err != api.OK || r.N != came[0]) {
				t.Fatalf("%d, act %d: %v are in it, and %v has it", seed, n, came, r)
			}
		}
	}
}

// 6.2: a lock as it was may be gone on from anew: two that go on from one do not meet.
func TestTwoFromOne(t *testing.T) {
	one, _ := lock.Take(row(4, 2), 1)
	left, _ := lock.Take(one, 2)
	right, _ := lock.Take(one, 3)
	rest, _ := lock.Free(left, 4)
	again, _ := lock.Take(rest, 9)
	there, _ := lock.Take(again, 9)
	more, _ := lock.Take(there, 8)
	for i, x := range []struct{ got, want []int }{{one, []int{4, 5, 1}}, {left, []int{4, 5, 1, 2}}, {right, []int{4, 5, 1, 3}}, {rest, []int{5, 1, 2}}, {again, []int{5, 1, 2, 9}}, {there, []int{5, 1, 2, 9}}, {more, []int{5, 1, 2, 9, 8}}} {
		if !slices.Equal(x.got, x.want) {
			t.Errorf("%d: %v, not %v", i, x.got, x.want)
		}
	}
}

// 6.2, rule 6: the same calls answer the same, whatever was asked ahead of them.
func TestSameAgain(t *testing.T) {
	for _, l := range rows() {
		for _, who := range people() {
			take(l, who)
			free(l, who)
			owner(l)
			if got, want := take([]int{1}, 2), (answer{[]int{1, 2}, api.OK, "", 1}); !got.same(want) {
				t.Fatalf("after %v, %d: %v, not %v", l, who, got, want)
			}
			if got, want := free([]int{1, 2}, 1), (answer{[]int{2}, api.OK, "", 2}); !got.same(want) {
				t.Fatalf("after %v, %d: %v, not %v", l, who, got, want)
			}
			if got, want := owner([]int{2, 1}), (answer{[]int{2, 1}, api.OK, "", 2}); !got.same(want) {
				t.Fatalf("after %v, %d: %v, not %v", l, who, got, want)
			}
		}
	}
}

// 6.3: no call panics of a lock that is nil, or of any length, nor of any number.
func TestNoPanic(t *testing.T) {
	for _, s := range [][]int{nil, {}, {0}, {math.MinInt}, {math.MaxInt, math.MinInt}, make([]int, 5), make([]int, 6), make([]int, 1<<20), row(0, 1<<20)} {
		if got, want := owner(s), ownerBySentence(s); !got.same(want) {
			t.Errorf("Owner of %d: %d", len(s), got.err)
		}
		for _, who := range []int{0, 1, -1, math.MinInt, math.MaxInt, 1<<20 - 1} {
			if got, want := take(s, who), takeBySentence(s, who); !got.same(want) {
				t.Errorf("Take of %d, %d: %d", len(s), who, got.err)
			}
			if got, want := free(s, who), freeBySentence(s, who); !got.same(want) {
				t.Errorf("Free of %d, %d: %d", len(s), who, got.err)
			}
		}
	}
}

// 6.1, 6.3: whatever the bytes are, no call panics, and all end and answer as the promises say: each byte is an act, and a number.
func FuzzLock(f *testing.F) {
	f.Add([]byte(nil), uint8(0))
	f.Add([]byte{1, 4, 7, 10, 13, 16, 0, 2, 5}, uint8(0))
	f.Add([]byte{1, 1, 2, 2, 0}, uint8(0))
	f.Add([]byte{2, 1, 5, 4, 8, 7, 0, 255}, uint8(5))
	f.Add([]byte{2, 5, 8, 11, 14, 17}, uint8(6))
	f.Fuzz(func(t *testing.T, acts []byte, start uint8) {
		s := row(0, int(start))
		for i, b := range acts {
			a := act{[]string{"owner", "take", "free"}[b%3], int(b)/3 - 1}
			was := slices.Clone(s)
			next, got, want := a.do(s)
			if !got.same(want) {
				t.Fatalf("act %d on %v: %v, not %v", i, was, got, want)
			}
			if !slices.Equal(s, was) {
				t.Fatalf("act %d changed %v", i, was)
			}
			s = next
		}
	})
}
