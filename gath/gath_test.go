package gath_test

import (
	"math"
	"slices"
	"testing"

	"hocket/api"
	"hocket/gath"
	"hocket/mesg"
	"hocket/view"
)

// all is how many nodes there can be, as the document lays it.
const all = 7

// dice answers numbers below n, the same row of the same seed.
func dice(seed int) func(n int) int {
	x := uint32(seed)*2654435761 + 1
	return func(n int) int {
		x = x*1664525 + 1013904223
		return int(x>>8) % n
	}
}

// held is the nearest number to n from least to most.
func held(n, least, most int) int {
	if n < least {
		return least
	}
	if n > most {
		return most
	}
	return n
}

// st is a state of view that from tells, of the view inst that it was in last, and of so many entries; gone is of one who lost it.
func st(from, view, inst, long int) api.Msg {
	return api.Msg{Kind: api.MState, From: from, To: 1, View: view, Inst: inst, Len: long, Has: true}
}

func gone(from, view, inst int) api.Msg {
	return api.Msg{Kind: api.MState, From: from, To: 1, View: view, Inst: inst}
}

// model is a gather, word by word of promise 18.1: those who came stand in a row, and so do those who were ready.
type model struct {
	n, id, v  int
	states    []api.Msg
	ready     []int
	commit    api.Msg
	committed bool
}

func newBySentence(n, id, v int, own api.Msg) *model {
	n = held(n, 1, all)
	id = held(id, 0, n-1)
	own.Kind, own.From = api.MState, id
	return &model{n: n, id: id, v: v, states: []api.Msg{own}}
}

func (g *model) has(from int) bool {
	return slices.ContainsFunc(g.states, func(m api.Msg) bool { return m.From == from })
}

func (g *model) Take(m api.Msg) bool {
	if m.Kind != 2 || m.View != g.v || m.From < 0 || m.From > g.n-1 || g.has(m.From) || g.committed {
		return false
	}
	g.states = append(g.states, m)
	return true
}

func (g *model) All() bool { return len(g.states) == g.n }

func (g *model) Absent() []int {
	var l []int
	for from := range g.n {
		if !g.has(from) {
			l = append(l, from)
		}
	}
	return l
}

func (g *model) Commit() (api.Msg, bool) {
	if !g.committed {
		mask, source, length, ok := view.Choose(g.states, g.n)
		if !ok {
			return api.Msg{}, false
		}
		g.committed = true
		g.commit = api.Msg{Kind: 3, View: g.v, From: g.id, Members: mask, Source: source, Len: length}
	}
	return g.commit, true
}

func (g *model) Ready(from int) bool {
	if !slices.Contains(g.Unready(), from) {
		return false
	}
	g.ready = append(g.ready, from)
	return true
}

func (g *model) Unready() []int {
	var l []int
	for id := range all {
		if g.committed && g.commit.Members>>id%2 == 1 && !slices.Contains(g.ready, id) {
			l = append(l, id)
		}
	}
	return l
}

func (g *model) Done() bool { return g.committed && len(g.Unready()) == 0 }

// gather is what a gather and its model do.
type gather interface {
	Take(m api.Msg) bool
	All() bool
	Absent() []int
	Commit() (api.Msg, bool)
	Ready(from int) bool
	Unready() []int
	Done() bool
}

// told is all that a gather tells without an act.
type told struct {
	all, done       bool
	absent, unready []int
}

func tell(g gather) told {
	return told{g.All(), g.Done(), g.Absent(), g.Unready()}
}

func (a told) same(b told) bool {
	return a.all == b.all && a.done == b.done && slices.Equal(a.absent, b.absent) && slices.Equal(a.unready, b.unready)
}

// tells ends the test where g tells otherwise than want.
func tells(t *testing.T, g gather, want told) {
	t.Helper()
	if got := tell(g); !got.same(want) {
		t.Fatalf("%+v, not %+v", got, want)
	}
}

// commits ends the test where g's commit is otherwise than want; a want of no Kind is none.
func commits(t *testing.T, g gather, want api.Msg) {
	t.Helper()
	if got, ok := g.Commit(); ok != (want.Kind != 0) || !mesg.Same(got, want) {
		t.Fatalf("%+v, %v, not %+v", got, ok, want)
	}
}

// takes ends the test where g takes m, and should not, or the other way round.
func takes(t *testing.T, g gather, m api.Msg, want bool) {
	t.Helper()
	if g.Take(m) != want {
		t.Fatalf("Take of %+v is %v", m, !want)
	}
}

// alike are a gather and its model, which are asked the same.
type alike struct {
	got  *gath.Gather
	want *model
}

func twins(n, id, v int, own api.Msg) alike {
	return alike{gath.New(n, id, v, own), newBySentence(n, id, v, own)}
}

// take to ready end the test where the two answer otherwise.
func (a alike) take(t *testing.T, m api.Msg) {
	t.Helper()
	takes(t, a.got, m, a.want.Take(m))
	tells(t, a.got, tell(a.want))
}

func (a alike) commit(t *testing.T) {
	t.Helper()
	want, _ := a.want.Commit()
	commits(t, a.got, want)
	tells(t, a.got, tell(a.want))
}

func (a alike) ready(t *testing.T, from int) {
	t.Helper()
	if got, want := a.got.Ready(from), a.want.Ready(from); got != want {
		t.Fatalf("Ready(%d) is %v", from, got)
	}
	tells(t, a.got, tell(a.want))
}

// 18.1: a new gather has one's own state alone, n is held to 1 to 7, and nobody is a member yet.
func TestNew(t *testing.T) {
	for _, x := range []struct {
		n, id  int
		absent []int
	}{
		{1, 0, nil}, {2, 0, []int{1}}, {2, 1, []int{0}}, {3, 0, []int{1, 2}}, {3, 1, []int{0, 2}}, {3, 2, []int{0, 1}},
		{7, 0, []int{1, 2, 3, 4, 5, 6}}, {7, 3, []int{0, 1, 2, 4, 5, 6}}, {7, 6, []int{0, 1, 2, 3, 4, 5}},
		{0, 0, nil}, {-1, 0, nil}, {math.MinInt, 0, nil}, {8, 6, []int{0, 1, 2, 3, 4, 5}}, {64, 2, []int{0, 1, 3, 4, 5, 6}}, {math.MaxInt, 0, []int{1, 2, 3, 4, 5, 6}},
	} {
		tells(t, gath.New(x.n, x.id, 16, st(x.id, 16, 8, 3)), told{all: x.absent == nil, absent: x.absent})
	}
}

// 18.1: an id beyond is held to the nearest node, so that there is one who gathers.
func TestNewOfNoNode(t *testing.T) {
	for _, x := range []struct{ n, id, want int }{{1, 1, 0}, {3, -1, 0}, {3, 3, 2}, {3, 64, 2}, {9, 7, 6}, {7, math.MinInt, 0}, {7, math.MaxInt, 6}, {0, 5, 0}} {
		g := gath.New(x.n, x.id, 16, st(x.id, 16, 8, 3))
		for from := range held(x.n, 1, all) {
			takes(t, g, st(from, 16, 8, 1), from != x.want)
		}
		if m, ok := g.Commit(); !ok || m.From != x.want || m.Source != x.want || m.Len != 3 {
			t.Errorf("of %d, by %d: %+v", x.n, x.id, m)
		}
	}
}

// 18.1: one's own state is From id, whatever it says, and of this view, as an MState.
func TestOwnWhateverItSays(t *testing.T) {
	for from := -2; from < 9; from++ {
		g := gath.New(3, 1, 16, st(from, 16, 8, 4))
		tells(t, g, told{absent: []int{0, 2}})
		takes(t, g, st(1, 16, 8, 9), false)
		takes(t, g, st(0, 16, 8, 3), true)
		commits(t, g, api.Msg{Kind: api.MCommit, View: 16, From: 1, Members: 3, Source: 1, Len: 4})
	}
	for _, own := range []api.Msg{st(1, 9, 8, 4), {Kind: api.MJoin, Inst: 8, Len: 4, Has: true}, {Inst: 8, Len: 4, Has: true}, {Kind: -7, From: 64, To: 9, View: -5, Inst: 8, Len: 4, Has: true}} {
		g := gath.New(3, 1, 16, own)
		takes(t, g, st(2, 16, 8, 3), true)
		commits(t, g, api.Msg{Kind: api.MCommit, View: 16, From: 1, Members: 6, Source: 1, Len: 4})
	}
}

// 18.1: Take: known ones; what does not count leaves all as it was.
func TestTake(t *testing.T) {
	g := gath.New(4, 1, 17, st(1, 17, 8, 3))
	for _, x := range []struct {
		m      api.Msg
		ok     bool
		absent []int
	}{
		{st(1, 17, 8, 9), false, []int{0, 2, 3}},
		{st(4, 17, 8, 9), false, []int{0, 2, 3}}, {st(6, 17, 8, 9), false, []int{0, 2, 3}}, {st(7, 17, 8, 9), false, []int{0, 2, 3}}, {st(64, 17, 8, 9), false, []int{0, 2, 3}}, {st(67, 17, 8, 9), false, []int{0, 2, 3}},
		{st(-1, 17, 8, 9), false, []int{0, 2, 3}}, {st(-64, 17, 8, 9), false, []int{0, 2, 3}}, {st(math.MinInt, 17, 8, 9), false, []int{0, 2, 3}}, {st(math.MaxInt, 17, 8, 9), false, []int{0, 2, 3}},
		{st(3, 16, 8, 9), false, []int{0, 2, 3}}, {st(3, 18, 8, 9), false, []int{0, 2, 3}}, {st(3, 25, 8, 9), false, []int{0, 2, 3}}, {st(3, 9, 8, 9), false, []int{0, 2, 3}}, {st(3, 0, 8, 9), false, []int{0, 2, 3}}, {st(3, -17, 8, 9), false, []int{0, 2, 3}},
		{api.Msg{}, false, []int{0, 2, 3}}, {api.Msg{Kind: api.MJoin, From: 3, View: 17}, false, []int{0, 2, 3}}, {api.Msg{Kind: api.MCommit, From: 3, View: 17, Has: true}, false, []int{0, 2, 3}}, {api.Msg{Kind: -2, From: 3, View: 17, Has: true}, false, []int{0, 2, 3}},
		{st(3, 17, 8, 9), true, []int{0, 2}}, {st(3, 17, 8, 9), false, []int{0, 2}}, {st(3, 17, 8, 99), false, []int{0, 2}}, {gone(3, 17, 8), false, []int{0, 2}},
		{gone(0, 17, 99), true, []int{2}}, {st(0, 17, 99, 9), false, []int{2}},
		{api.Msg{Kind: api.MState, From: 2, View: 17}, true, nil}, {st(2, 17, 8, 9), false, nil},
	} {
		takes(t, g, x.m, x.ok)
		tells(t, g, told{all: x.absent == nil, absent: x.absent})
	}
}

// 18.1: Take: a state counts whomever it is sent to, and of whatever Inst and Len: the view alone is asked, and From.
func TestTakeAsksNoMore(t *testing.T) {
	for _, m := range []api.Msg{{To: 5}, {Inst: -1}, {Inst: math.MaxInt, Len: math.MinInt, Has: true}, {Has: true}, {Members: 9, Source: 4, At: 8, Total: 3, Hop: 1, Seq: 2, Index: 3}} {
		m.Kind, m.From, m.View = api.MState, 0, 17
		g := gath.New(2, 1, 17, st(1, 17, 8, 3))
		takes(t, g, m, true)
		tells(t, g, told{all: true})
	}
}

// 18.1: a Commit that is false leaves all as it was, and states count behind it; behind one that is true none does.
func TestTakeBehindCommit(t *testing.T) {
	g := gath.New(5, 0, 8, st(0, 8, 0, 0))
	takes(t, g, st(4, 8, 0, 0), true)
	for range 3 {
		commits(t, g, api.Msg{})
		tells(t, g, told{absent: []int{1, 2, 3}})
	}
	takes(t, g, st(2, 8, 0, 1), true)
	// That there can be a commit ends nothing: it was not asked for yet.
	takes(t, g, st(1, 8, 0, 2), true)
	want := api.Msg{Kind: api.MCommit, View: 8, From: 0, Members: 23, Source: 1, Len: 2}
	commits(t, g, want)
	takes(t, g, st(3, 8, 0, 9), false)
	takes(t, g, st(1, 8, 0, 9), false)
	tells(t, g, told{absent: []int{3}, unready: []int{0, 1, 2, 4}})
	commits(t, g, want)
}

// 18.1: Commit: known ones, of gathers by node 1 of view 17.
func TestCommit(t *testing.T) {
	for i, x := range []struct {
		n       int
		own     api.Msg
		l       []api.Msg
		members int
		source  int
		length  int
	}{
		// The chapter's example; of two it is no most either, of one it is.
		{3, st(1, 17, 8, 3), nil, 0, 0, 0}, {2, st(1, 17, 8, 3), nil, 0, 0, 0},
		{2, st(1, 17, 8, 3), []api.Msg{st(0, 17, 8, 3)}, 3, 0, 3},
		{3, st(1, 17, 8, 3), []api.Msg{st(0, 17, 8, 2)}, 3, 1, 3},
		{3, st(1, 17, 8, 3), []api.Msg{st(2, 17, 8, 3)}, 6, 1, 3},
		{3, st(1, 17, 8, 3), []api.Msg{st(2, 17, 8, 4)}, 6, 2, 4},
		// Half are not most.
		{4, st(1, 17, 8, 3), []api.Msg{st(2, 17, 8, 4)}, 0, 0, 0}, {6, st(1, 17, 8, 3), []api.Msg{st(2, 17, 8, 4), st(5, 17, 8, 4)}, 0, 0, 0}, {6, st(1, 17, 8, 3), []api.Msg{st(2, 17, 8, 4), st(5, 17, 8, 4), st(0, 17, 8, 1)}, 0b100111, 2, 4},
		// The last view's state is taken, however short; nobody's, where who was in it lost theirs.
		{3, st(1, 17, 8, 30), []api.Msg{st(2, 17, 16, 0)}, 6, 2, 0}, {3, st(1, 17, 8, 30), []api.Msg{gone(2, 17, 16)}, 0, 0, 0}, {3, gone(1, 17, 16), []api.Msg{st(0, 17, 8, 30)}, 0, 0, 0},
		{3, gone(1, 17, 16), []api.Msg{st(0, 17, 8, 30), st(2, 17, 16, 5)}, 7, 2, 5}, {3, gone(1, 17, 0), []api.Msg{gone(0, 17, 0), gone(2, 17, 0)}, 0, 0, 0}, {3, gone(1, 17, 8), []api.Msg{st(0, 17, 8, 30)}, 3, 0, 30},
		// Of two as long the least is the source, whoever came first.
		{5, st(1, 17, 8, 3), []api.Msg{st(4, 17, 8, 7), st(3, 17, 8, 7), st(0, 17, 8, 6)}, 0b11011, 3, 7},
		// What does not count is not chosen of.
		{3, st(1, 17, 8, 3), []api.Msg{st(0, 16, 8, 3), st(3, 17, 8, 3), st(1, 17, 8, 9)}, 0, 0, 0}, {3, st(1, 17, 8, 3), []api.Msg{st(0, 17, 8, 2), st(0, 17, 16, 9), st(3, 17, 24, 9)}, 3, 1, 3},
		{7, st(1, 17, 0, 0), []api.Msg{st(6, 17, 0, 0), st(5, 17, 0, 0), st(4, 17, 0, 0), st(3, 17, 0, 0), st(2, 17, 0, 0), st(0, 17, 0, 0)}, 127, 0, 0},
	} {
		g := gath.New(x.n, 1, 17, x.own)
		for _, m := range x.l {
			g.Take(m)
		}
		want := api.Msg{}
		if x.members != 0 {
			want = api.Msg{Kind: api.MCommit, View: 17, From: 1, Members: x.members, Source: x.source, Len: x.length}
		}
		if got, ok := g.Commit(); ok != (x.members != 0) || !mesg.Same(got, want) {
			t.Errorf("%d: %+v, %v, not %+v", i, got, ok, want)
		}
	}
}

// 18.1: one who is alone has all, and commits that.
func TestAlone(t *testing.T) {
	g := gath.New(1, 0, 8, st(0, 8, 0, 5))
	tells(t, g, told{all: true})
	commits(t, g, api.Msg{Kind: api.MCommit, View: 8, Members: 1, Len: 5})
	tells(t, g, told{all: true, unready: []int{0}})
	if !g.Ready(0) || g.Ready(0) || !g.Done() {
		t.Error("not ready alone")
	}
	g = gath.New(1, 0, 8, gone(0, 8, 0))
	commits(t, g, api.Msg{})
	tells(t, g, told{all: true})
}

// 18.1, rule 7: a commit has no field that the promise does not name, though the states have all.
func TestCommitHasNoMore(t *testing.T) {
	g := gath.New(3, 1, 17, full(st(1, 17, 8, 3)))
	takes(t, g, full(st(2, 17, 8, 4)), true)
	takes(t, g, full(st(0, 17, 8, 4)), true)
	commits(t, g, api.Msg{Kind: api.MCommit, View: 17, From: 1, Members: 7, Source: 0, Len: 4})
}

// 18.1: once true, Commit is the same ever after, whatever is asked between.
func TestCommitStays(t *testing.T) {
	g := gath.New(5, 2, 18, st(2, 18, 8, 3))
	takes(t, g, st(0, 18, 8, 4), true)
	takes(t, g, gone(4, 18, 0), true)
	want := api.Msg{Kind: api.MCommit, View: 18, From: 2, Members: 21, Source: 0, Len: 4}
	commits(t, g, want)
	for from := -1; from < 9; from++ {
		takes(t, g, st(from, 18, 8, 9), false)
		takes(t, g, st(from, 26, 8, 9), false)
		g.Ready(from)
		commits(t, g, want)
		g.All()
		g.Absent()
		g.Unready()
		commits(t, g, want)
	}
	tells(t, g, told{done: true, absent: []int{1, 3}})
	commits(t, g, want)
}

// 18.1: Ready: known ones, in any order, of members, of others, and of who was ready.
func TestReady(t *testing.T) {
	g := gath.New(5, 1, 17, st(1, 17, 8, 3))
	takes(t, g, st(4, 17, 8, 3), true)
	takes(t, g, st(0, 17, 8, 3), true)
	commits(t, g, api.Msg{Kind: api.MCommit, View: 17, From: 1, Members: 19, Source: 0, Len: 3})
	tells(t, g, told{absent: []int{2, 3}, unready: []int{0, 1, 4}})
	for _, x := range []struct {
		from    int
		ok      bool
		unready []int
	}{
		{2, false, []int{0, 1, 4}}, {3, false, []int{0, 1, 4}}, {5, false, []int{0, 1, 4}}, {7, false, []int{0, 1, 4}}, {64, false, []int{0, 1, 4}}, {68, false, []int{0, 1, 4}}, {-1, false, []int{0, 1, 4}}, {-64, false, []int{0, 1, 4}}, {math.MinInt, false, []int{0, 1, 4}}, {math.MaxInt, false, []int{0, 1, 4}},
		{4, true, []int{0, 1}}, {4, false, []int{0, 1}}, {2, false, []int{0, 1}}, {0, true, []int{1}}, {0, false, []int{1}}, {1, true, nil}, {1, false, nil}, {4, false, nil}, {3, false, nil},
	} {
		if got := g.Ready(x.from); got != x.ok {
			t.Errorf("Ready(%d) is %v", x.from, got)
		}
		tells(t, g, told{done: x.unready == nil, absent: []int{2, 3}, unready: x.unready})
	}
}

// 18.1: nobody is ready ahead of a Commit that was true: who said so is unready behind it still.
func TestReadyAheadOfCommit(t *testing.T) {
	g := gath.New(3, 1, 17, st(1, 17, 8, 3))
	none := func() {
		t.Helper()
		for from := -1; from < 8; from++ {
			if g.Ready(from) {
				t.Fatalf("%d is ready ahead of a commit", from)
			}
		}
	}
	none()
	commits(t, g, api.Msg{})
	none()
	takes(t, g, st(0, 17, 8, 3), true)
	takes(t, g, st(2, 17, 8, 3), true)
	// All have come, and there could be a commit; there is none before it is asked for.
	none()
	tells(t, g, told{all: true})
	commits(t, g, api.Msg{Kind: api.MCommit, View: 17, From: 1, Members: 7, Source: 0, Len: 3})
	tells(t, g, told{all: true, unready: []int{0, 1, 2}})
}

// 18.1: a gather of any n, id and members answers by its sentence, whoever came first, and whoever is ready first.
func TestEachSetBySentence(t *testing.T) {
	for n := 1; n <= all; n++ {
		for id := range n {
			for mask := range 1 << n {
				l := view.Members(mask)
				for turn := range 2 {
					a := twins(n, id, 8+id, st(id, 8+id, mask%3*8, mask%5))
					for k, from := range l {
						m := st(from, 8+id, (mask+from)%3*8, (mask*from)%5)
						m.Has = (mask+2*k)%7 > 0
						a.take(t, m)
						if k%3 == turn {
							a.commit(t)
						}
					}
					a.commit(t)
					for range 2 {
						for from := range n + 1 {
							a.ready(t, from)
						}
						slices.Reverse(l)
						for _, from := range l {
							a.take(t, st(from, 8+id, 24, 9))
						}
					}
					a.commit(t)
				}
			}
		}
	}
}

// 18.1: whatever is done, in any order, a gather answers by its sentence.
func TestActsBySentence(t *testing.T) {
	next := dice(18)
	committed, done, refused := 0, 0, 0
	for range 4000 {
		n := 1 + next(all)
		id := next(n)
		v := 8 + next(2)*8 + id
		a := twins(n, id, v, st(next(9)-1, v-next(2), next(3)*8, next(5)))
		for range 30 {
			switch next(8) {
			case 0, 1, 2, 3:
				m := st(next(n+2)-1, v-next(6)/5, next(3)*8, next(5))
				m.Has = next(4) > 0
				m.Kind -= next(8) / 7
				a.take(t, m)
			case 4:
				a.commit(t)
				if !a.want.committed {
					refused++
				}
			default:
				a.ready(t, next(n+2)-1)
			}
		}
		if a.want.committed {
			committed++
		}
		if a.want.Done() {
			done++
		}
	}
	if committed < 500 || done < 200 || refused < 500 {
		t.Errorf("the acts say little: %d committed, %d done, %d refused", committed, done, refused)
	}
}
