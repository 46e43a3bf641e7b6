package gath_test

import (
	"slices"
	"testing"

	"hocket/api"
	"hocket/gath"
	"hocket/view"
)

// member is a node that gathers, or tells its state to whoever does: what it promised outlives, its gather does not.
type member struct {
	prom, inst, long int
	has              bool
	g                *gath.Gather
}

// town is all nodes, the messages under way, and of each view the commits that were sent, and who went on in it.
type town struct {
	t       *testing.T
	nodes   []member
	flying  []api.Msg
	commits map[int][]api.Msg
	done    []int
}

func build(t *testing.T, n int) *town {
	w := &town{t: t, nodes: make([]member, n), commits: map[int][]api.Msg{}}
	for id := range w.nodes {
		w.nodes[id].has = true
	}
	return w
}

// state is what id tells of itself.
func (w *town) state(id, to int) api.Msg {
	x := w.nodes[id]
	return api.Msg{Kind: api.MState, From: id, To: to, View: x.prom, Inst: x.inst, Len: x.long, Has: x.has}
}

// send has m under way to each node but its own.
func (w *town) send(m api.Msg) {
	for to := range w.nodes {
		if to != m.From {
			m.To = to
			w.flying = append(w.flying, m)
		}
	}
}

// gather has id begin a view of its own.
func (w *town) gather(id int) {
	x := &w.nodes[id]
	x.prom = view.Next(x.prom, id)
	x.g = gath.New(len(w.nodes), id, x.prom, w.state(id, id))
	w.send(api.Msg{Kind: api.MJoin, From: id, View: x.prom})
}

// commit has id send its commit, if it has one.
func (w *town) commit(id int) {
	x := &w.nodes[id]
	if x.g == nil {
		return
	}
	if m, ok := x.g.Commit(); ok {
		w.commits[m.View] = append(w.commits[m.View], m)
		w.send(m)
		m.To = id
		w.take(m)
	}
}

// take has m come to whom it is sent to.
func (w *town) take(m api.Msg) {
	x := &w.nodes[m.To]
	switch m.Kind {
	case api.MJoin:
		if m.View > x.prom {
			x.prom, x.g = m.View, nil
			w.flying = append(w.flying, w.state(m.To, m.From))
		}
	case api.MState:
		if x.g != nil {
			x.g.Take(m)
		}
	case api.MCommit:
		if m.View == x.prom && m.Members>>m.To%2 == 1 && x.inst < m.View {
			x.inst, x.long, x.has = m.View, m.Len, true
			w.flying = append(w.flying, api.Msg{Kind: api.MReady, From: m.To, To: m.From, View: m.View})
		}
	case api.MReady:
		if x.g != nil && m.View == x.prom && x.g.Ready(m.From) && x.g.Done() {
			w.goesOn(m.View)
		}
	}
}

// goesOn ends the test where a view goes on without a member: each promised it, and is in it or was told of a greater one since.
func (w *town) goesOn(v int) {
	w.done = append(w.done, v)
	for _, id := range view.Members(w.commits[v][0].Members) {
		if x := w.nodes[id]; x.prom < v || x.inst < v {
			w.t.Fatalf("%d goes on without %d, which is in %d, and promised %d", v, id, x.inst, x.prom)
		}
		// What is given out in a view makes the states of its members longer.
		w.nodes[id].long += v % 3
	}
}

// oneSet ends the test where two commits of one view differ, or two views that were committed have no member of both.
func (w *town) oneSet() {
	var sets []int
	for v, l := range w.commits {
		for _, m := range l {
			if m.Members != l[0].Members || m.Source != l[0].Source || m.Len != l[0].Len || m.From != view.Who(v) {
				w.t.Fatalf("of %d: %+v, and %+v", v, l[0], m)
			}
		}
		sets = append(sets, l[0].Members)
	}
	for _, a := range sets {
		for _, b := range sets {
			if a&b == 0 {
				w.t.Fatalf("%v and %v do not meet", view.Members(a), view.Members(b))
			}
		}
	}
}

// 18.2, W2: whatever is lost, late, or comes twice, and whoever gathers, also ahead of the others' answers, or comes up again: one view has one set of members.
func TestOneSetOfMembers(t *testing.T) {
	next := dice(2)
	views, done := 0, 0
	for turn := range 300 {
		w := build(t, 1+turn%all)
		for range 150 {
			id := next(len(w.nodes))
			switch k := next(24); {
			case k == 0:
				w.gather(id)
			case k == 1:
				// Who comes up promised what it did; its gather is gone.
				w.nodes[id].g = nil
			case k < 6:
				w.commit(id)
			case len(w.flying) > 0:
				i := next(len(w.flying))
				m := w.flying[i]
				if next(6) > 0 {
					w.flying = slices.Delete(w.flying, i, i+1)
				}
				if next(8) > 0 {
					w.take(m)
				}
			}
		}
		w.oneSet()
		views += len(w.commits)
		done += len(w.done)
	}
	if views < 500 || done < 100 {
		t.Errorf("the acts say little: %d views, %d went on", views, done)
	}
}

// 18.2, W2: a state that comes behind the commit changes nothing of it: those who were sent the commit first and last were sent the same.
func TestLateStates(t *testing.T) {
	for n := 2; n <= all; n++ {
		for mask := range 1 << n {
			g := gath.New(n, 0, 8, st(0, 8, 0, 0))
			for _, from := range view.Members(mask) {
				g.Take(st(from, 8, 0, from))
			}
			first, ok := g.Commit()
			if ok != view.Most(mask|1, n) {
				t.Fatalf("of %d, %v: %v", n, view.Members(mask), ok)
			}
			for from := range n {
				if late := g.Take(st(from, 8, 16, 99)); ok && late {
					t.Fatalf("of %d, %v: %d came late", n, view.Members(mask), from)
				}
				if last, again := g.Commit(); ok && (!again || last.Members != first.Members || last.Source != first.Source || last.Len != first.Len) {
					t.Fatalf("of %d, %v: %+v, and %+v", n, view.Members(mask), first, last)
				}
			}
		}
	}
}
