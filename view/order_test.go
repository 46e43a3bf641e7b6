package view_test

import (
	"testing"

	"hocket/api"
	"hocket/view"
)

// 14.3, W2: two that most are in have one in both, of whatever number of nodes; and of two halves no one is most.
func TestMostsMeet(t *testing.T) {
	for n := 1; n <= all; n++ {
		for a := range 1 << n {
			other := 1<<n - 1 - a
			if view.Most(a, n) && view.Most(other, n) {
				t.Errorf("of %d nodes, %v and %v are most", n, view.Members(a), view.Members(other))
			}
			for b := range 1 << n {
				if view.Most(a, n) && view.Most(b, n) && len(view.Members(a&b)) == 0 {
					t.Errorf("of %d nodes, %v and %v do not meet", n, view.Members(a), view.Members(b))
				}
			}
		}
	}
}

// 14.3, W5: all nodes are most, and where not half of them are in a mask the others are.
func TestMostGoesOn(t *testing.T) {
	for n := 1; n <= all; n++ {
		if !view.Most(1<<n-1, n) {
			t.Errorf("all %d nodes are not most", n)
		}
		for mask := range 1 << n {
			if 2*len(view.Members(mask)) < n && !view.Most(1<<n-1-mask, n) {
				t.Errorf("of %d nodes, those but %v are not most", n, view.Members(mask))
			}
		}
	}
}

// 14.3, W2: a view's number is made by one node, and by it once: it is above each that was promised, its Who is who made it, and no two nodes make the same.
func TestNumbersAreOnes(t *testing.T) {
	for _, prom := range append(wide(), few()...) {
		seen := map[int]int{}
		for id := range all {
			v := view.Next(prom, id)
			if v <= held(prom, 0, topProm) || view.Who(v) != id {
				t.Fatalf("behind %d, of %d: %d, of %d", prom, id, v, view.Who(v))
			}
			seen[v] = id
		}
		if len(seen) != all {
			t.Fatalf("behind %d: %v", prom, seen)
		}
	}
	for id := range all {
		for v := range 2000 {
			if again := view.Next(view.Next(v, id), id); again <= view.Next(v, id) || view.Who(again) != id {
				t.Fatalf("%d makes %d behind %d", id, again, view.Next(v, id))
			}
		}
	}
}

// 14.3, W2: whoever gathers, and of whomever, the source of a view was in the last one ahead of it, whose number is less, and has all that its members have; where none of these has a state, there is no view.
func TestLastViewIsKnown(t *testing.T) {
	next := dice()
	views, refused := 0, 0
	for range 400 {
		n := 1 + next(all)
		last, lastMask, length := 0, 1<<n-1, 0
		nodes := make([]api.Msg, n)
		for id := range nodes {
			nodes[id] = st(id, 0, 0)
		}
		for range 60 {
			var l []api.Msg
			for _, id := range []int{0, 1, 2, 3, 4, 5, 6} {
				if from := (id*3 + next(2)) % all; from < n && next(4) > 0 {
					l = append(l, nodes[from])
				}
			}
			mask, source, long, ok := view.Choose(l, n)
			if !ok {
				refused++
				// Who comes up has no state; a state that most of the last view's members have is not lost by one.
				if id := next(n); next(8) == 0 {
					nodes[id].Has, nodes[id].Len = false, 0
				}
				continue
			}
			views++
			if nodes[source].Inst != last || lastMask>>source&1 == 0 || !nodes[source].Has || long != nodes[source].Len || long < length {
				t.Fatalf("of %v: %d is the source of %v, but the last view is %d, of %v, and had %d", l, source, view.Members(mask), last, view.Members(lastMask), length)
			}
			v := view.Next(last, next(n))
			if v <= last {
				t.Fatalf("%d behind %d", v, last)
			}
			last, lastMask, length = v, mask, long+next(3)
			for _, id := range view.Members(mask) {
				nodes[id] = st(id, v, length+next(2))
			}
		}
	}
	if views < 1000 || refused < 1000 {
		t.Errorf("the rows say little: %d views, %d refused", views, refused)
	}
}
