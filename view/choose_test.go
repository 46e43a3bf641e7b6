package view_test

import (
	"math"
	"slices"
	"testing"

	"hocket/api"
	"hocket/view"
)

// chosen is what Choose answers.
type chosen struct {
	mask, source, length int
	ok                   bool
}

// choose is the call.
func choose(l []api.Msg, n int) chosen {
	mask, source, length, ok := view.Choose(l, n)
	return chosen{mask, source, length, ok}
}

// st is a state that is there, gone one that is not.
func st(from, inst, length int) api.Msg {
	return api.Msg{Kind: api.MState, From: from, Inst: inst, Len: length, Has: true}
}

func gone(from, inst, length int) api.Msg {
	return api.Msg{Kind: api.MState, From: from, Inst: inst, Len: length}
}

// chooseBySentence is the call, word by word of promise 14.2: it goes by Froms, not along l.
func chooseBySentence(l []api.Msg, n int) chosen {
	mask := 0
	var count, best []api.Msg
	for from := range held(n, 1, all) {
		i := slices.IndexFunc(l, func(m api.Msg) bool { return m.Kind == 2 && m.From == from })
		if i >= 0 {
			mask += 1 << from
			count = append(count, l[i])
		}
	}
	for _, m := range count {
		greatest := !slices.ContainsFunc(count, func(x api.Msg) bool { return x.Inst > m.Inst })
		if greatest && m.Has {
			best = append(best, m)
		}
	}
	for _, m := range best {
		// They stand in best by From, so the first of the longest is of the least.
		if mostBySentence(mask, n) && !slices.ContainsFunc(best, func(x api.Msg) bool { return x.Len > m.Len }) {
			return chosen{mask, m.From, m.Len, true}
		}
	}
	return chosen{}
}

// chooses ends the test where Choose answers otherwise than its sentence.
func chooses(t *testing.T, l []api.Msg, n int) {
	t.Helper()
	if got, want := choose(l, n), chooseBySentence(l, n); got != want {
		t.Fatalf("Choose(%v, %d) is %v, not %v", l, n, got, want)
	}
}

// orders are all orders of l.
func orders(l []api.Msg) [][]api.Msg {
	if len(l) == 0 {
		return [][]api.Msg{nil}
	}
	var out [][]api.Msg
	for i, m := range l {
		for _, rest := range orders(slices.Delete(slices.Clone(l), i, i+1)) {
			out = append(out, append([]api.Msg{m}, rest...))
		}
	}
	return out
}

// dice answers numbers below n, the same row each time.
func dice() func(n int) int {
	x := uint32(2463534242)
	return func(n int) int {
		x ^= x << 13
		x ^= x >> 17
		x ^= x << 5
		return int(x>>3) % n
	}
}

// messages are n messages of any kind: most of them states, of nodes and of such as are none, with numbers that are often alike.
func messages(next func(int) int, n int) []api.Msg {
	var l []api.Msg
	for range n {
		m := api.Msg{Kind: api.MState, From: next(9) - 1, Inst: next(3) - 1, Len: next(4) - 2, Has: next(3) > 0}
		if next(5) == 0 {
			m.Kind = next(11) - 1
		}
		l = append(l, m)
	}
	return l
}

// 14.2: known choices.
func TestKnownChoices(t *testing.T) {
	none := chosen{}
	for i, x := range []struct {
		l    []api.Msg
		n    int
		want chosen
	}{
		{nil, 1, none}, {nil, 0, none}, {[]api.Msg{}, 7, none},
		// most of all nodes are to be there
		{[]api.Msg{st(0, 0, 0)}, 1, chosen{1, 0, 0, true}},
		{[]api.Msg{st(0, 8, 5)}, 2, none},
		{[]api.Msg{st(0, 8, 5), st(1, 0, 0)}, 2, chosen{3, 0, 5, true}},
		{[]api.Msg{st(0, 8, 5), st(2, 0, 0)}, 3, chosen{5, 0, 5, true}},
		{[]api.Msg{st(0, 8, 5), st(2, 0, 0)}, 4, none},
		{[]api.Msg{st(4, 8, 5), st(2, 0, 0), st(3, 0, 0)}, 5, chosen{28, 4, 5, true}},
		{[]api.Msg{st(4, 8, 5), st(2, 0, 0), st(3, 0, 0)}, 6, none},
		{[]api.Msg{st(6, 8, 5), st(2, 0, 0), st(3, 0, 0)}, 7, none},
		{[]api.Msg{st(6, 8, 5), st(2, 0, 0), st(3, 0, 0), st(0, 1, 9)}, 7, chosen{77, 6, 5, true}},
		// the greatest Inst, whatever is longer elsewhere
		{[]api.Msg{st(0, 8, 100), st(1, 9, 1)}, 3, chosen{3, 1, 1, true}},
		{[]api.Msg{st(1, 9, 1), st(0, 8, 100)}, 3, chosen{3, 1, 1, true}},
		{[]api.Msg{st(0, 8, 100), st(1, 16, 0), st(2, 9, 200)}, 3, chosen{7, 1, 0, true}},
		// the greatest Len of these, then the least From
		{[]api.Msg{st(0, 8, 3), st(1, 8, 4), st(2, 8, 2)}, 3, chosen{7, 1, 4, true}},
		{[]api.Msg{st(2, 8, 4), st(1, 8, 4), st(0, 8, 3)}, 3, chosen{7, 1, 4, true}},
		{[]api.Msg{st(2, 8, 4), st(0, 8, 4), st(1, 8, 4)}, 3, chosen{7, 0, 4, true}},
		{[]api.Msg{st(2, 8, 4), st(1, 8, 4), st(0, 0, 90)}, 3, chosen{7, 1, 4, true}},
		// of all's Inst the greatest, of one who has none, too
		{[]api.Msg{gone(0, 0, 0)}, 1, none},
		{[]api.Msg{st(0, 8, 5), gone(1, 9, 0)}, 3, none},
		{[]api.Msg{gone(1, 9, 0), st(0, 8, 5)}, 3, none},
		{[]api.Msg{st(0, 8, 5), gone(1, 8, 9)}, 3, chosen{3, 0, 5, true}},
		{[]api.Msg{gone(0, 8, 9), st(1, 8, 5)}, 3, chosen{3, 1, 5, true}},
		{[]api.Msg{st(0, 8, 5), gone(1, 7, 0)}, 3, chosen{3, 0, 5, true}},
		{[]api.Msg{gone(0, 9, 0), st(1, 9, 2), st(2, 8, 50)}, 3, chosen{7, 1, 2, true}},
		// one for each From, the first
		{[]api.Msg{st(0, 8, 5), st(0, 8, 5)}, 2, none},
		{[]api.Msg{st(0, 8, 5), st(0, 9, 6), st(1, 8, 4)}, 2, chosen{3, 0, 5, true}},
		{[]api.Msg{gone(0, 8, 5), st(0, 8, 5), st(1, 8, 4)}, 2, chosen{3, 1, 4, true}},
		{[]api.Msg{st(0, 8, 5), gone(0, 99, 5), st(1, 8, 4)}, 2, chosen{3, 0, 5, true}},
		{[]api.Msg{st(1, 8, 4), st(0, 8, 3), st(1, 8, 99)}, 2, chosen{3, 1, 4, true}},
		// no other kind, also ahead of a state
		{[]api.Msg{{Kind: api.MJoin, From: 0, Inst: 99, Len: 9, Has: true}, st(0, 8, 5), st(1, 8, 4)}, 2, chosen{3, 0, 5, true}},
		{[]api.Msg{{From: 0, Inst: 99, Has: true}, {Kind: api.MData + 1, From: 1, Inst: 99, Has: true}, {Kind: -2, From: 1, Inst: 99}, st(0, 8, 5)}, 2, none},
		{[]api.Msg{{Kind: api.MCommit, From: 0, Len: 9, Has: true}, {Kind: api.MReady, From: 1, Has: true}}, 2, none},
		// no From beyond
		{[]api.Msg{st(1, 8, 5)}, 1, none},
		{[]api.Msg{st(1, 99, 5), st(0, 8, 4)}, 1, chosen{1, 0, 4, true}},
		{[]api.Msg{gone(3, 99, 5), gone(-1, 99, 5), st(0, 8, 4), st(2, 8, 6)}, 3, chosen{5, 2, 6, true}},
		{[]api.Msg{st(7, 99, 5), st(8, 99, 5), st(63, 99, 5), st(64, 99, 5), st(math.MaxInt, 99, 5), st(math.MinInt, 99, 5), st(-64, 99, 5)}, 7, none},
		// n is held to 1 to 7
		{[]api.Msg{st(0, 8, 4)}, 0, chosen{1, 0, 4, true}},
		{[]api.Msg{st(0, 8, 4), st(1, 9, 4)}, math.MinInt, chosen{1, 0, 4, true}},
		{[]api.Msg{st(3, 8, 4), st(4, 8, 4), st(5, 8, 4), st(6, 8, 5)}, 8, chosen{120, 6, 5, true}},
		{[]api.Msg{st(3, 8, 4), st(4, 8, 4), st(5, 8, 4), st(6, 8, 5), st(7, 9, 5)}, math.MaxInt, chosen{120, 6, 5, true}},
		{[]api.Msg{st(4, 8, 4), st(5, 8, 4), st(6, 8, 5), st(7, 9, 5), st(8, 9, 9)}, 9, none},
		// numbers below 0, and as great as can be
		{[]api.Msg{st(0, -8, -5), st(1, -9, 4)}, 2, chosen{3, 0, -5, true}},
		{[]api.Msg{st(0, -8, -5), st(1, -8, -4)}, 2, chosen{3, 1, -4, true}},
		{[]api.Msg{st(0, math.MinInt, math.MinInt), gone(1, math.MinInt, 3)}, 2, chosen{3, 0, math.MinInt, true}},
		{[]api.Msg{st(0, math.MinInt, 1), st(1, math.MaxInt, math.MinInt)}, 2, chosen{3, 1, math.MinInt, true}},
		{[]api.Msg{st(0, math.MaxInt, math.MinInt), st(1, math.MaxInt, math.MaxInt)}, 2, chosen{3, 1, math.MaxInt, true}},
	} {
		if got := choose(x.l, x.n); got != x.want {
			t.Errorf("%d: %v, not %v", i, got, x.want)
		}
	}
}

// 14.2: of three nodes, each with a state or none, in each order, Choose is what its sentence says, and the order does not count.
func TestEachThree(t *testing.T) {
	var sets [][]api.Msg
	sets = append(sets, nil)
	for from := range 3 {
		var more [][]api.Msg
		for _, l := range sets {
			for kind := range 12 {
				more = append(more, append(slices.Clone(l), api.Msg{Kind: api.MState, From: from, Inst: kind % 3, Len: kind / 3 % 2, Has: kind < 6}))
			}
			more = append(more, l)
		}
		sets = more
	}
	for _, l := range sets {
		for n := range 5 {
			was := choose(l, n)
			for _, in := range orders(l) {
				chooses(t, in, n)
				if got := choose(in, n); got != was {
					t.Fatalf("Choose(%v, %d) is %v, in another order %v", in, n, got, was)
				}
			}
		}
	}
}

// 14.2: of long rows, of any kinds, from any nodes, each as often as it likes, Choose is what its sentence says.
func TestLongRows(t *testing.T) {
	next := dice()
	yes, no := 0, 0
	for range 20000 {
		l, n := messages(next, next(20)), next(11)-1
		chooses(t, l, n)
		if choose(l, n).ok {
			yes++
		} else {
			no++
		}
	}
	if yes < 1000 || no < 1000 {
		t.Errorf("the rows say little: %d are true, %d false", yes, no)
	}
}

// 14.2: fields that the promise does not name do not count.
func TestOtherFields(t *testing.T) {
	next := dice()
	for range 2000 {
		l, n := messages(next, 8), next(8)
		was := choose(l, n)
		for i := range l {
			m := &l[i]
			m.To, m.View, m.Members, m.Source, m.At, m.Total = next(9)-1, next(99)-9, next(200)-9, next(9)-1, next(99), next(99)
			m.Data, m.Hop, m.Seq, m.Have, m.Need = []byte{byte(i)}, next(9), next(9), []int{i, -i}, []int{i}
			m.Index, m.Entry = next(9), api.Entry{Sess: i, Seq: i, Cmd: api.Cmd{Kind: i, Key: []byte("k")}}
		}
		if got := choose(l, n); got != was {
			t.Fatalf("Choose(%v, %d) is %v, without these fields %v", l, n, got, was)
		}
	}
}
