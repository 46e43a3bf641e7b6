package gath_test

import (
	"bytes"
	"math"
	"slices"
	"testing"

	"hocket/api"
	"hocket/gath"
	"hocket/mesg"
)

// full is m with something in each field that a state does not have, each list with room behind it.
func full(m api.Msg) api.Msg {
	m.Members, m.Source, m.At, m.Total, m.Hop, m.Seq, m.Index = 9, 8, 7, 6, 5, 4, 3
	m.Data = append(make([]byte, 0, 32), "data"...)
	m.Have = append(make([]int, 0, 8), 1, 2)
	m.Need = append(make([]int, 0, 8), 3, 4)
	m.Entry = api.Entry{Sess: 1, Seq: 2, Cmd: api.Cmd{Kind: 3, Who: 4, Key: append(make([]byte, 0, 32), "key"...), Val: append(make([]byte, 0, 32), "val"...), Old: append(make([]byte, 0, 32), "old"...)}}
	return m
}

// rows and texts are all lists of m, with the room behind each.
func rows(m api.Msg) [][]int {
	return [][]int{m.Have[:cap(m.Have)], m.Need[:cap(m.Need)]}
}

func texts(m api.Msg) [][]byte {
	c := m.Entry.Cmd
	return [][]byte{m.Data[:cap(m.Data)], c.Key[:cap(c.Key)], c.Val[:cap(c.Val)], c.Old[:cap(c.Old)]}
}

// scribble turns all of l, and of the room behind it.
func scribble[T byte | int](l []T) {
	room := l[:cap(l)]
	for i := range room {
		room[i] ^= 0x7f
	}
}

// scrawl turns all that m's lists hold.
func scrawl(m api.Msg) {
	for _, l := range rows(m) {
		scribble(l)
	}
	for _, l := range texts(m) {
		scribble(l)
	}
}

// gathered is a gather of 5 by 1 to which 0, 3 and 4 came, of states that lie in l.
func gathered() (g *gath.Gather, l []api.Msg) {
	l = []api.Msg{full(st(1, 17, 8, 3)), full(st(4, 17, 8, 2)), full(st(0, 17, 8, 5)), full(st(3, 17, 0, 9))}
	g = gath.New(5, 1, 17, l[0])
	for _, m := range l[1:] {
		g.Take(m)
	}
	return g, l
}

// 18.1, rule 3: what is handed in stays, and so does the room behind it.
func TestHandedInStays(t *testing.T) {
	g, l := gathered()
	g.Take(l[2])
	g.Commit()
	for from := range 5 {
		g.Ready(from)
		g.Take(l[0])
	}
	for i, m := range l {
		was := full(api.Msg{Kind: api.MState, From: m.From, To: m.To, View: m.View, Inst: m.Inst, Len: m.Len, Has: m.Has})
		if !mesg.Same(m, was) || !slices.EqualFunc(rows(m), rows(was), slices.Equal[[]int]) || !slices.EqualFunc(texts(m), texts(was), bytes.Equal) {
			t.Errorf("%d: changed to %+v", i, m)
		}
	}
}

// 18.1, rule 3: what is handed in is not kept: what is done to it later is not seen.
func TestNothingIsKept(t *testing.T) {
	g, l := gathered()
	for i := range l {
		scrawl(l[i])
		l[i] = api.Msg{Kind: 9, From: -1, View: -1, Inst: 99, Len: 99}
	}
	tells(t, g, told{absent: []int{2}})
	want := api.Msg{Kind: api.MCommit, View: 17, From: 1, Members: 27, Source: 0, Len: 5}
	commits(t, g, want)
	for i := range l {
		l[i] = st(2, 17, 99, 99)
	}
	commits(t, g, want)
}

// 18.1, rule 3: who is absent, and who is unready, is told in new memory, with the room behind it: what is done to it is not seen in what is told then.
func TestAnswersAreNew(t *testing.T) {
	g, _ := gathered()
	absent := g.Absent()
	scribble(absent)
	tells(t, g, told{absent: []int{2}})
	g.Commit()
	want := told{absent: []int{2}, unready: []int{0, 1, 3, 4}}
	one, two := g.Unready(), g.Unready()
	scribble(one)
	scribble(g.Absent())
	if !slices.Equal(two, want.unready) {
		t.Errorf("unready are %v", two)
	}
	tells(t, g, want)
	g.Ready(3)
	if !slices.Equal(two, want.unready) {
		t.Errorf("unready are %v, behind one who is ready", two)
	}
	m, _ := g.Commit()
	for _, l := range rows(m) {
		if len(l) > 0 {
			t.Errorf("the commit has %v", l)
		}
	}
	for _, l := range texts(m) {
		if len(l) > 0 {
			t.Errorf("the commit has %q", l)
		}
	}
}

// 18.1, rule 6: two gathers do not touch each other, and the same acts do the same.
func TestGathersAreApart(t *testing.T) {
	one, _ := gathered()
	other := gath.New(3, 2, 18, st(2, 18, 8, 1))
	one.Commit()
	one.Ready(1)
	tells(t, other, told{absent: []int{0, 1}})
	takes(t, other, st(1, 18, 8, 1), true)
	commits(t, other, api.Msg{Kind: api.MCommit, View: 18, From: 2, Members: 6, Source: 1, Len: 1})
	other.Ready(2)
	tells(t, one, told{absent: []int{2}, unready: []int{0, 3, 4}})
	same, _ := gathered()
	same.Commit()
	same.Ready(1)
	tells(t, same, tell(one))
	want, _ := one.Commit()
	commits(t, same, want)
}

// Rule 1: states with empty lists are as those with none.
func TestNilIsEmpty(t *testing.T) {
	void := api.Msg{Kind: api.MState, From: 2, View: 17, Has: true, Data: []byte{}, Have: []int{}, Need: []int{}}
	g := gath.New(3, 1, 17, void)
	takes(t, g, void, true)
	commits(t, g, api.Msg{Kind: api.MCommit, View: 17, From: 1, Members: 6, Source: 1})
}

// wide are numbers about each power of two, above 0 and below.
func wide() []int {
	l := []int{0, 2, 5, 6, math.MaxInt, math.MaxInt - 1, math.MinInt, math.MinInt + 1}
	for i := 0; i < 63; i += 3 {
		l = append(l, 1<<i-1, 1<<i, 1<<i+1, -1<<i-1, -1<<i)
	}
	return l
}

// 18.3: whatever the numbers are, no call panics; what they answer is what their sentences say.
func TestAnyNumbers(t *testing.T) {
	l := wide()
	for i, n := range l {
		for k, id := range l {
			v, other := l[(i+k)%len(l)], l[(i*5+k*3)%len(l)]
			a := twins(n, id, v, st(other, other, v, id))
			for from := range 7 {
				a.take(t, st(from, v, l[(i+from)%len(l)], other))
				a.take(t, st(other, v, id, n))
				a.take(t, api.Msg{Kind: other, From: id, View: v, Has: true})
			}
			a.ready(t, other)
			a.commit(t)
			for _, from := range []int{other, id, n, 0, 1, 2, 3} {
				a.take(t, st(from, v, other, id))
				a.ready(t, from)
			}
			a.commit(t)
		}
	}
}

// 18.3: of a gather that is asked ever again each call ends, and it tells the same.
func TestLong(t *testing.T) {
	a := twins(7, 3, 19, st(3, 19, 8, 1))
	for i := range 1 << 16 {
		a.take(t, st(i%3, 19, 8, i))
		a.take(t, st(i, 27, 8, i))
		a.take(t, st(7+i, 19, 8, i))
	}
	a.commit(t)
	a.take(t, st(5, 19, 8, 1<<20))
	for range 1 << 14 {
		a.commit(t)
		a.take(t, st(4, 19, 8, 9))
		a.take(t, st(6, 19, 8, 9))
		a.ready(t, 3)
	}
}

// 18.1, 18.3: whatever is done, each three bytes an act, each call answers by its sentence.
func FuzzGather(f *testing.F) {
	f.Add([]byte(nil), 3, 1, 17)
	f.Add([]byte{0, 0, 9, 0, 2, 8, 4, 0, 0, 5, 0, 0, 5, 2, 0, 5, 1, 0, 0, 1, 9}, 3, 1, 17)
	f.Add([]byte{128, 0, 25, 0, 2, 8, 4, 0, 0, 0, 1, 25, 4, 0, 0, 5, 255, 0, 5, 9, 0, 1, 3, 9, 2, 3, 9}, 4, 3, 8)
	f.Add([]byte{5, 0, 0, 4, 0, 0, 5, 0, 0}, math.MinInt, math.MaxInt, math.MinInt)
	f.Fuzz(func(t *testing.T, b []byte, n, id, v int) {
		for _, a := range []alike{twins(n, id, v, st(id, v, 8, 3)), twins(int(uint(n)%9), int(uint(id)%9), v, gone(id, v, 8))} {
			for l := b; len(l) >= 3; l = l[3:] {
				from := int(int8(l[1]))
				m := st(from, v, int(int8(l[2]))/8*8, int(l[2]%8))
				m.Has = l[0] < 128
				switch l[0] & 7 {
				case 1:
					m.View += from
				case 2:
					m.Kind = int(l[2])
				case 4:
					a.commit(t)
					continue
				case 5:
					a.ready(t, from)
					continue
				}
				a.take(t, m)
			}
			a.commit(t)
		}
	})
}
