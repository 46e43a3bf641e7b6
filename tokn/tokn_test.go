package tokn_test

import (
	"math"
	"math/big"
	"slices"
	"testing"

	"hocket/api"
	"hocket/mesg"
	"hocket/tokn"
)

// The bounds, as the document lays them: mostGiven is how many indexes are given out at once, mostAhead how far Seq may be above Safe, mostNeed how many a token says that it needs, all how many nodes there can be.
const (
	mostGiven = 4
	mostAhead = 16
	mostNeed  = 8
	all       = 7
)

// dice answers numbers below n, the same row of the same seed.
func dice(seed int) func(n int) int {
	x := uint32(seed)*2654435761 + 1
	return func(n int) int {
		x = x*1664525 + 1013904223
		return int(x>>8) % n
	}
}

// held is the nearest number to n from least to most.
func held(n, least, most int) int {
	if n < least {
		return least
	}
	if n > most {
		return most
	}
	return n
}

// safeBySentence to passBySentence are the calls, word by word of promises 17.1 and 17.2; room is counted with numbers that have no end.
func safeBySentence(have []int) int {
	if len(have) == 0 {
		return 0
	}
	least := have[0]
	for _, h := range have {
		if h < least {
			least = h
		}
	}
	return least
}

func roomBySentence(seq int, have []int) int {
	bound := new(big.Int).Add(big.NewInt(int64(safeBySentence(have))), big.NewInt(mostAhead))
	for room := mostGiven; room > 0; room-- {
		if after := new(big.Int).Add(big.NewInt(int64(seq)), big.NewInt(int64(room))); after.Cmp(bound) <= 0 {
			return room
		}
	}
	return 0
}

func firstBySentence(view, members, length int) api.Msg {
	m := api.Msg{Kind: 7, View: view, Hop: 1, Seq: length}
	for range held(members, 1, all) {
		m.Have = append(m.Have, length)
	}
	return m
}

// handing is what Pass is given.
type handing struct {
	t                             api.Msg
	me, place, next, whole, fresh int
	has, missing                  []int
}

// pass is the call.
func (h handing) pass() (api.Msg, []int) {
	return tokn.Pass(h.t, h.me, h.place, h.next, h.whole, h.fresh, h.has, h.missing)
}

func (h handing) passBySentence() (api.Msg, []int) {
	m := h.t
	m.From, m.To = h.me, h.next
	m.Hop = h.t.Hop + 1
	m.Seq = h.t.Seq + held(h.fresh, 0, roomBySentence(h.t.Seq, h.t.Have))
	m.Have, m.Need = nil, nil
	for i, n := range h.t.Have {
		if i == h.place {
			n = h.whole
		}
		m.Have = append(m.Have, n)
	}
	var again, need []int
	for _, i := range h.t.Need {
		if slices.Contains(h.has, i) {
			again = append(again, i)
		} else if i > safeBySentence(m.Have) {
			need = append(need, i)
		}
	}
	for _, i := range h.missing {
		if i > safeBySentence(m.Have) && !slices.Contains(need, i) {
			need = append(need, i)
		}
	}
	m.Need = need[:min(len(need), mostNeed)]
	return m, again
}

// passes ends the test where Pass answers otherwise than its sentence.
func (h handing) passes(t *testing.T) {
	t.Helper()
	got, again := h.pass()
	want, wantAgain := h.passBySentence()
	if !mesg.Same(got, want) || !slices.Equal(again, wantAgain) {
		t.Fatalf("Pass of %+v is %+v, %v, not %+v, %v", h, got, again, want, wantAgain)
	}
}

// numbers ends the test where Safe or Room answers otherwise than its sentence.
func numbers(t *testing.T, m api.Msg) {
	t.Helper()
	if got, want := tokn.Safe(m), safeBySentence(m.Have); got != want {
		t.Fatalf("Safe of Have %v is %d, not %d", m.Have, got, want)
	}
	if got, want := tokn.Room(m), roomBySentence(m.Seq, m.Have); got != want {
		t.Fatalf("Room of Seq %d, Have %v is %d, not %d", m.Seq, m.Have, got, want)
	}
}

// token is one with what the calls ask of it.
func token(seq int, have, need []int) api.Msg {
	return api.Msg{Kind: api.MToken, View: 9, From: 5, To: 6, Hop: 30, Seq: seq, Have: have, Need: need}
}

// upTo are the numbers from a to b.
func upTo(a, b int) []int {
	var l []int
	for i := a; i <= b; i++ {
		l = append(l, i)
	}
	return l
}

// wide are numbers about each power of two, above 0 and below.
func wide() []int {
	l := []int{0, math.MaxInt, math.MaxInt - 1, math.MaxInt - 16, math.MinInt, math.MinInt + 1, math.MinInt + 16}
	for i := 0; i < 63; i += 3 {
		l = append(l, 1<<i-1, 1<<i, 1<<i+17, -1<<i-1, -1<<i+1)
	}
	return l
}

// row are as many numbers as one asks, below 0 seldom, and often alike.
func row(next func(int) int, many int) []int {
	var l []int
	for range many {
		l = append(l, next(30)-3)
	}
	return l
}

// 17.1: the first token: known ones, and by its sentence; members are held to 1 to 7, other numbers are not held.
func TestFirst(t *testing.T) {
	for _, x := range []struct {
		view, members, length int
		have                  []int
	}{
		{8, 1, 5, []int{5}}, {8, 3, 5, []int{5, 5, 5}}, {9, 7, 0, []int{0, 0, 0, 0, 0, 0, 0}}, {1 << 39, 2, 1 << 39, []int{1 << 39, 1 << 39}},
		{8, 0, 5, []int{5}}, {8, -1, 5, []int{5}}, {8, math.MinInt, 5, []int{5}}, {8, 8, 5, slices.Repeat([]int{5}, 7)}, {8, math.MaxInt, 5, slices.Repeat([]int{5}, 7)},
		{-8, 2, -5, []int{-5, -5}}, {math.MinInt, 1, math.MaxInt, []int{math.MaxInt}}, {0, 0, 0, []int{0}},
	} {
		want := api.Msg{Kind: api.MToken, View: x.view, Hop: 1, Seq: x.length, Have: x.have}
		if got := tokn.First(x.view, x.members, x.length); !mesg.Same(got, want) {
			t.Errorf("First(%d, %d, %d) is %+v", x.view, x.members, x.length, got)
		}
	}
	for _, n := range wide() {
		for members := -2; members < 10; members++ {
			for _, m := range []int{members, n} {
				if got, want := tokn.First(n, m, -n), firstBySentence(n, m, -n); !mesg.Same(got, want) {
					t.Fatalf("First(%d, %d, %d) is %+v", n, m, -n, got)
				}
			}
		}
	}
}

// 17.1: of the first token all members have all, nothing is under way, and four may be given out; it is a message.
func TestFirstIsWhole(t *testing.T) {
	for members := 1; members <= all; members++ {
		for _, length := range []int{0, 1, 64, 1 << 39} {
			m := tokn.First(8, members, length)
			if tokn.Safe(m) != length || tokn.Room(m) != mostGiven || len(m.Have) != members {
				t.Errorf("%+v: Safe %d, Room %d", m, tokn.Safe(m), tokn.Room(m))
			}
			if back, ok := mesg.Decode(mesg.Encode(m)); !ok || !mesg.Same(back, m) {
				t.Errorf("%+v comes as %+v", m, back)
			}
		}
	}
}

// 17.1: up to where all have all: known ones.
func TestKnownSafe(t *testing.T) {
	for _, x := range []struct {
		have []int
		want int
	}{
		{nil, 0}, {[]int{}, 0}, {[]int{0}, 0}, {[]int{7}, 7}, {[]int{3, 5}, 3}, {[]int{5, 3}, 3}, {[]int{5, 3, 4}, 3}, {[]int{4, 4}, 4}, {[]int{9, 8, 7, 6, 5, 4, 3}, 3},
		{[]int{1, 2, 0}, 0}, {[]int{1, -2, 0}, -2}, {[]int{-1}, -1}, {[]int{math.MaxInt}, math.MaxInt}, {[]int{math.MaxInt, math.MinInt}, math.MinInt},
		// nothing beyond seven is left out
		{[]int{9, 9, 9, 9, 9, 9, 9, 2}, 2},
	} {
		if got := tokn.Safe(token(99, x.have, []int{1})); got != x.want {
			t.Errorf("Safe of Have %v is %d, not %d", x.have, got, x.want)
		}
	}
}

// 17.1: how many may be given out: known ones, at four and at none, and where there is no Have, whose Safe is 0.
func TestKnownRoom(t *testing.T) {
	for _, x := range []struct {
		seq  int
		have []int
		want int
	}{
		{5, []int{5}, 4}, {16, []int{5}, 4}, {17, []int{5}, 4}, {18, []int{5}, 3}, {19, []int{5}, 2}, {20, []int{5}, 1}, {21, []int{5}, 0}, {22, []int{5}, 0}, {999, []int{5}, 0},
		{4, []int{5}, 4}, {0, []int{5}, 4}, {0, []int{100}, 4}, {-9, []int{5}, 4},
		{0, nil, 4}, {12, nil, 4}, {13, nil, 3}, {14, nil, 2}, {15, nil, 1}, {16, nil, 0}, {17, nil, 0}, {math.MaxInt, nil, 0}, {math.MinInt, nil, 4},
		{20, []int{9, 5, 9}, 1}, {20, []int{9, 9, 5}, 1}, {20, []int{9, 9, 9}, 4}, {22, []int{9, 9}, 3},
		{10, []int{-2}, 4}, {11, []int{-2}, 3}, {13, []int{-2}, 1}, {14, []int{-2}, 0},
		{math.MaxInt, []int{math.MaxInt - 13}, 3}, {math.MaxInt, []int{math.MaxInt - 15}, 1}, {math.MaxInt, []int{math.MaxInt - 16}, 0}, {0, []int{math.MaxInt}, 4}, {math.MinInt, []int{math.MaxInt}, 4},
		{math.MaxInt, []int{math.MinInt}, 0}, {math.MinInt, []int{math.MinInt}, 4}, {math.MinInt + 13, []int{math.MinInt}, 3}, {0, []int{math.MinInt}, 0}, {-1, []int{math.MinInt}, 0},
	} {
		if got := tokn.Room(token(x.seq, x.have, nil)); got != x.want {
			t.Errorf("Room of Seq %d, Have %v is %d, not %d", x.seq, x.have, got, x.want)
		}
	}
}

// 17.1: Safe and Room are what their sentences say, and so many as there is room for leave Seq where it may be, but no more do, where they are less than four.
func TestNumbersBySentence(t *testing.T) {
	next := dice(1)
	for seq := -30; seq < 60; seq++ {
		for safe := -30; safe < 60; safe++ {
			m := token(seq, []int{safe + next(3), safe, safe + next(20)}, row(next, next(9)))
			numbers(t, m)
			room := tokn.Room(m)
			if room > 0 && seq+room > safe+mostAhead || room < mostGiven && seq+room+1 <= safe+mostAhead {
				t.Fatalf("%d may be given out of Seq %d, Safe %d", room, seq, safe)
			}
		}
	}
	for range 2000 {
		numbers(t, token(next(40), row(next, next(10)), nil))
	}
}

// 17.2: the token as it is handed on: known ones.
func TestKnownPass(t *testing.T) {
	with := func(m api.Msg, from, to, hop int) api.Msg {
		m.From, m.To, m.Hop = from, to, hop
		return m
	}
	base := token(9, []int{5, 9}, []int{7, 6, 8})
	none := token(9, []int{5, 9}, nil)
	far := token(20, []int{5}, []int{11, 12, 13, 14, 15, 16})
	for i, x := range []struct {
		h     handing
		want  api.Msg
		again []int
	}{
		// who hands on, to whom, and one more Hop
		{handing{none, 0, 0, 1, 5, 0, nil, nil}, with(none, 0, 1, 31), nil},
		{handing{none, 6, 0, 6, 5, 0, nil, nil}, with(none, 6, 6, 31), nil},
		{handing{none, -3, 0, 99, 5, 0, nil, nil}, with(none, -3, 99, 31), nil},
		// so many more as there are, held to the room of the token that came
		{handing{none, 1, 0, 2, 5, 4, nil, nil}, with(token(13, []int{5, 9}, nil), 1, 2, 31), nil},
		{handing{none, 1, 0, 2, 5, 5, nil, nil}, with(token(13, []int{5, 9}, nil), 1, 2, 31), nil},
		{handing{none, 1, 0, 2, 5, math.MaxInt, nil, nil}, with(token(13, []int{5, 9}, nil), 1, 2, 31), nil},
		{handing{none, 1, 0, 2, 5, -1, nil, nil}, with(none, 1, 2, 31), nil},
		{handing{none, 1, 0, 2, 5, math.MinInt, nil, nil}, with(none, 1, 2, 31), nil},
		{handing{token(20, []int{5, 9}, nil), 1, 0, 2, 8, 4, nil, nil}, with(token(21, []int{8, 9}, nil), 1, 2, 31), nil},
		{handing{token(20, []int{9, 9}, nil), 1, 0, 2, 4, 4, nil, nil}, with(token(24, []int{4, 9}, nil), 1, 2, 31), nil},
		{handing{token(21, []int{5, 9}, nil), 1, 0, 2, 9, 4, nil, nil}, with(token(21, []int{9, 9}, nil), 1, 2, 31), nil},
		{handing{token(40, []int{5, 9}, nil), 1, 0, 2, 9, 4, nil, nil}, with(token(40, []int{9, 9}, nil), 1, 2, 31), nil},
		// Have at its place, where there is one, whatever stood there
		{handing{none, 1, 1, 2, 12, 0, nil, nil}, with(token(9, []int{5, 12}, nil), 1, 2, 31), nil},
		{handing{none, 1, 1, 2, 3, 0, nil, nil}, with(token(9, []int{5, 3}, nil), 1, 2, 31), nil},
		{handing{none, 1, 1, 2, -3, 0, nil, nil}, with(token(9, []int{5, -3}, nil), 1, 2, 31), nil},
		{handing{none, 1, 2, 2, 99, 0, nil, nil}, with(none, 1, 2, 31), nil},
		{handing{none, 1, -1, 2, 99, 0, nil, nil}, with(none, 1, 2, 31), nil},
		{handing{none, 1, math.MaxInt, 2, 99, 0, nil, nil}, with(none, 1, 2, 31), nil},
		{handing{none, 1, math.MinInt, 2, 99, 0, nil, nil}, with(none, 1, 2, 31), nil},
		{handing{token(9, nil, nil), 1, 0, 2, 99, 1, nil, nil}, with(token(10, nil, nil), 1, 2, 31), nil},
		// what one has is sent again, in the token's order, and needed no more
		{handing{base, 1, 0, 2, 5, 0, nil, nil}, with(base, 1, 2, 31), nil},
		{handing{base, 1, 0, 2, 5, 0, []int{6, 7, 8}, nil}, with(none, 1, 2, 31), []int{7, 6, 8}},
		{handing{base, 1, 0, 2, 5, 0, []int{8, 6}, nil}, with(token(9, []int{5, 9}, []int{7}), 1, 2, 31), []int{6, 8}},
		{handing{base, 1, 0, 2, 5, 0, []int{5, 9, 8, 8}, nil}, with(token(9, []int{5, 9}, []int{7, 6}), 1, 2, 31), []int{8}},
		// also where all have it by now, and as often as it is asked for
		{handing{token(9, []int{5, 9}, []int{3, 5, 6}), 1, 0, 2, 5, 0, []int{3, 5, 6}, nil}, with(none, 1, 2, 31), []int{3, 5, 6}},
		{handing{base, 1, 0, 2, 8, 0, []int{6}, nil}, with(token(9, []int{8, 9}, nil), 1, 2, 31), []int{6}},
		{handing{token(9, []int{5, 9}, []int{6, 7, 6}), 1, 0, 2, 5, 0, []int{6}, nil}, with(token(9, []int{5, 9}, []int{7}), 1, 2, 31), []int{6, 6}},
		{handing{token(20, []int{0}, upTo(1, 12)), 1, 0, 2, 0, 0, upTo(1, 12), nil}, with(token(20, []int{0}, nil), 1, 2, 31), upTo(1, 12)},
		// what one misses comes behind, in its order, once
		{handing{none, 1, 0, 2, 5, 0, nil, []int{6, 8}}, with(token(9, []int{5, 9}, []int{6, 8}), 1, 2, 31), nil},
		{handing{none, 1, 0, 2, 5, 0, nil, []int{8, 6, 8}}, with(token(9, []int{5, 9}, []int{8, 6}), 1, 2, 31), nil},
		{handing{base, 1, 0, 2, 5, 0, nil, []int{6, 9, 7, 8}}, with(token(9, []int{5, 9}, []int{7, 6, 8, 9}), 1, 2, 31), nil},
		{handing{base, 1, 0, 2, 5, 0, []int{7}, []int{9, 6}}, with(token(9, []int{5, 9}, []int{6, 8, 9}), 1, 2, 31), []int{7}},
		{handing{none, 1, 0, 2, 5, 0, []int{6}, []int{6}}, with(token(9, []int{5, 9}, []int{6}), 1, 2, 31), nil},
		// of both only what not all have, with what one tells of oneself now
		{handing{token(9, []int{5, 9}, []int{5, 6, 4}), 1, 0, 2, 5, 0, nil, []int{3, 5, 7}}, with(token(9, []int{5, 9}, []int{6, 7}), 1, 2, 31), nil},
		{handing{base, 1, 0, 2, 7, 0, nil, []int{7, 9, 6}}, with(token(9, []int{7, 9}, []int{8, 9}), 1, 2, 31), nil},
		{handing{base, 1, 0, 2, 9, 0, nil, []int{9}}, with(token(9, []int{9, 9}, nil), 1, 2, 31), nil},
		{handing{base, 1, 1, 2, 9, 0, nil, nil}, with(base, 1, 2, 31), nil},
		{handing{token(9, []int{8, 9}, []int{7, 6}), 1, 0, 2, 6, 0, nil, nil}, with(token(9, []int{6, 9}, []int{7}), 1, 2, 31), nil},
		{handing{token(9, nil, []int{-1, 0, 1}), 1, 0, 2, 9, 0, nil, []int{0, 2}}, with(token(9, nil, []int{1, 2}), 1, 2, 31), nil},
		// eight at most, the token's ahead of one's own
		{handing{far, 1, 0, 2, 10, 0, nil, []int{17, 18}}, with(token(20, []int{10}, upTo(11, 18)), 1, 2, 31), nil},
		{handing{far, 1, 0, 2, 10, 0, nil, []int{17, 18, 19}}, with(token(20, []int{10}, upTo(11, 18)), 1, 2, 31), nil},
		{handing{far, 1, 0, 2, 12, 0, nil, upTo(1, 30)}, with(token(20, []int{12}, upTo(13, 20)), 1, 2, 31), nil},
		{handing{far, 1, 0, 2, 10, 0, []int{12}, upTo(14, 30)}, with(token(20, []int{10}, []int{11, 13, 14, 15, 16, 17, 18, 19}), 1, 2, 31), []int{12}},
		{handing{token(20, []int{5}, upTo(6, 20)), 1, 0, 2, 5, 0, nil, []int{21}}, with(token(20, []int{5}, upTo(6, 13)), 1, 2, 31), nil},
		{handing{token(20, []int{5}, upTo(6, 20)), 1, 0, 2, 5, 0, []int{6, 20}, nil}, with(token(20, []int{5}, upTo(7, 14)), 1, 2, 31), []int{6, 20}},
		{handing{token(20, []int{5}, nil), 1, 0, 2, 5, 0, nil, upTo(6, 20)}, with(token(20, []int{5}, upTo(6, 13)), 1, 2, 31), nil},
	} {
		got, again := x.h.pass()
		if !mesg.Same(got, x.want) || !slices.Equal(again, x.again) {
			t.Errorf("%d: %+v, %v, not %+v, %v", i, got, again, x.want, x.again)
		}
		x.h.passes(t)
	}
}

// 17.2: View stays, and all that is not spoken of, whatever the message is.
func TestPassLeavesTheRest(t *testing.T) {
	m := token(9, []int{5, 9}, []int{7})
	m.Kind, m.View, m.Inst, m.Len, m.Has, m.Members, m.Source, m.At, m.Total, m.Data, m.Index = -3, 1<<40, 2, 3, true, 4, 5, 6, 7, []byte("data"), 8
	m.Entry = api.Entry{Sess: 1, Seq: 2, Cmd: api.Cmd{Kind: 3, Who: 4, Key: []byte("k"), Val: []byte("v"), Old: []byte("o")}}
	want := m
	want.From, want.To, want.Hop, want.Seq, want.Have, want.Need = 1, 2, 31, 11, []int{6, 9}, []int{8}
	got, again := tokn.Pass(m, 1, 0, 2, 6, 2, []int{7}, []int{8})
	if !mesg.Same(got, want) || !slices.Equal(again, []int{7}) {
		t.Errorf("%+v, %v, not %+v", got, again, want)
	}
	empty := api.Msg{From: 1, To: 2, Hop: 1}
	if got, again := tokn.Pass(api.Msg{}, 1, 0, 2, 6, 0, nil, nil); !mesg.Same(got, empty) || len(again) > 0 {
		t.Errorf("%+v, %v", got, again)
	}
}

// 17.2: Pass is what its sentence says, of any rows.
func TestPassBySentence(t *testing.T) {
	next := dice(2)
	for range 20000 {
		m := token(next(40)-4, row(next, next(9)), row(next, next(12)))
		handing{m, next(9) - 1, next(10) - 1, next(9) - 1, next(30) - 3, next(9) - 2, row(next, next(10)), row(next, next(12))}.passes(t)
	}
}
