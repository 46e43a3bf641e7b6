package view_test

import (
	"math"
	"slices"
	"testing"

	"hocket/view"
)

// topProm is the greatest number that a view is made behind, and all how many nodes there can be, as the document lays them.
const (
	topProm = 1 << 39
	all     = 7
)

// held is the nearest number to n from least to most.
func held(n, least, most int) int {
	if n < least {
		return least
	}
	if n > most {
		return most
	}
	return n
}

// isIn tells if bit i is set in mask, of a mask below 0 too.
func isIn(mask, i int) bool { return (uint64(mask)>>i)%2 == 1 }

// nextBySentence to limitBySentence are the calls, word by word of promise 14.1.
func nextBySentence(prom, id int) int {
	rest := held(prom, 0, topProm) % 8
	return held(prom, 0, topProm) - rest + 8 + held(id, 0, 6)
}

func whoBySentence(v int) int {
	if v < 0 {
		return 0
	}
	return v - v/8*8
}

func membersBySentence(mask int) []int {
	var l []int
	for i := 0; i <= 6; i++ {
		if isIn(mask, i) {
			l = append(l, i)
		}
	}
	return l
}

func mostBySentence(mask, n int) bool {
	n = held(n, 1, all)
	set := 0
	for i := range 64 {
		if isIn(mask, i) && i >= n {
			return false
		}
		if isIn(mask, i) {
			set++
		}
	}
	return float64(set) > float64(n)/2
}

func afterBySentence(mask, id int) int {
	l := membersBySentence(mask)
	if len(l) == 0 {
		return -1
	}
	if i := slices.IndexFunc(l, func(m int) bool { return m > id }); i >= 0 {
		return l[i]
	}
	return l[0]
}

func limitBySentence(id int) int {
	return []int{400, 440, 480, 520, 560, 600, 640}[held(id, 0, 6)]
}

// few are all masks of seven nodes, such as have bits beyond, and the first below 0.
func few() []int {
	var l []int
	for mask := -600; mask < 1200; mask++ {
		l = append(l, mask)
	}
	return l
}

// wide are numbers about each power of two, above 0 and below.
func wide() []int {
	l := []int{0, math.MaxInt, math.MaxInt - 1, math.MaxInt - 8, math.MinInt, math.MinInt + 1, math.MinInt + 8}
	for i := range 63 {
		l = append(l, 1<<i-1, 1<<i, 1<<i+1, 1<<i+7, -1<<i-1, -1<<i, -1<<i+1)
	}
	return l
}

// ids are numbers of nodes, and such as are beyond them.
func ids() []int {
	l := []int{math.MinInt, math.MinInt + 1, -1 << 40, 63, 64, 65, 1 << 40, math.MaxInt - 1, math.MaxInt}
	for i := -9; i < 20; i++ {
		l = append(l, i)
	}
	return l
}

// 14.1: the number of the next view: known ones.
func TestKnownNext(t *testing.T) {
	for _, x := range []struct{ prom, id, want int }{
		{0, 0, 8}, {0, 1, 9}, {0, 6, 14},
		{1, 0, 8}, {6, 0, 8}, {7, 0, 8}, {7, 6, 14}, {8, 0, 16}, {9, 0, 16}, {14, 6, 22}, {15, 6, 22}, {16, 6, 30}, {300, 5, 309},
		{-1, 0, 8}, {-8, 2, 10}, {-9, 2, 10}, {math.MinInt, 6, 14},
		{8, -1, 16}, {8, math.MinInt, 16}, {8, 7, 22}, {8, 8, 22}, {8, math.MaxInt, 22},
		{topProm - 1, 0, topProm}, {topProm, 0, topProm + 8}, {topProm + 1, 0, topProm + 8}, {topProm + 8, 0, topProm + 8}, {1 << 40, 3, topProm + 11}, {math.MaxInt, 6, topProm + 14}, {math.MaxInt, math.MaxInt, topProm + 14}, {math.MinInt, math.MinInt, 8},
	} {
		if got := view.Next(x.prom, x.id); got != x.want {
			t.Errorf("Next(%d, %d) is %d, not %d", x.prom, x.id, got, x.want)
		}
	}
}

// 14.1: Next is what its sentence says.
func TestNextBySentence(t *testing.T) {
	for _, id := range ids() {
		for _, prom := range append(wide(), few()...) {
			if got, want := view.Next(prom, id), nextBySentence(prom, id); got != want {
				t.Fatalf("Next(%d, %d) is %d, not %d", prom, id, got, want)
			}
		}
	}
}

// 14.1: who made a view: known ones.
func TestKnownWho(t *testing.T) {
	for _, x := range [][2]int{{0, 0}, {1, 1}, {6, 6}, {7, 7}, {8, 0}, {9, 1}, {14, 6}, {15, 7}, {300, 4}, {1<<40 + 5, 5}, {math.MaxInt, 7}, {-1, 0}, {-7, 0}, {-8, 0}, {-9, 0}, {-1 << 40, 0}, {math.MinInt, 0}, {math.MinInt + 5, 0}} {
		if got := view.Who(x[0]); got != x[1] {
			t.Errorf("Who(%d) is %d, not %d", x[0], got, x[1])
		}
	}
}

// 14.1: Who is what its sentence says.
func TestWhoBySentence(t *testing.T) {
	for _, v := range append(wide(), few()...) {
		if got, want := view.Who(v), whoBySentence(v); got != want {
			t.Fatalf("Who(%d) is %d, not %d", v, got, want)
		}
	}
}

// 14.1: who is in a mask: known ones.
func TestKnownMembers(t *testing.T) {
	for _, x := range []struct {
		mask int
		want []int
	}{
		{0, nil}, {1, []int{0}}, {2, []int{1}}, {64, []int{6}}, {3, []int{0, 1}}, {5, []int{0, 2}}, {0b1010011, []int{0, 1, 4, 6}}, {0b1111110, []int{1, 2, 3, 4, 5, 6}}, {127, []int{0, 1, 2, 3, 4, 5, 6}},
		{128, nil}, {255, []int{0, 1, 2, 3, 4, 5, 6}}, {256 + 4, []int{2}}, {1 << 40, nil}, {math.MaxInt, []int{0, 1, 2, 3, 4, 5, 6}},
		{-1, []int{0, 1, 2, 3, 4, 5, 6}}, {-2, []int{1, 2, 3, 4, 5, 6}}, {-128, nil}, {-127, []int{0}}, {math.MinInt, nil}, {math.MinInt + 6, []int{1, 2}},
	} {
		if got := view.Members(x.mask); !slices.Equal(got, x.want) {
			t.Errorf("Members(%d) is %v, not %v", x.mask, got, x.want)
		}
	}
}

// 14.1: Members is what its sentence says.
func TestMembersBySentence(t *testing.T) {
	for _, mask := range append(wide(), few()...) {
		if got, want := view.Members(mask), membersBySentence(mask); !slices.Equal(got, want) {
			t.Fatalf("Members(%d) is %v, not %v", mask, got, want)
		}
	}
}

// 14.1: are most in a mask: known ones; half is not most, n is held to 1 to 7, and nobody may be beyond.
func TestKnownMost(t *testing.T) {
	for _, x := range []struct {
		mask, n int
		want    bool
	}{
		{0, 1, false}, {1, 1, true}, {2, 1, false}, {3, 1, false},
		{0, 2, false}, {1, 2, false}, {2, 2, false}, {3, 2, true}, {7, 2, false},
		{1, 3, false}, {3, 3, true}, {5, 3, true}, {6, 3, true}, {7, 3, true}, {8, 3, false}, {9, 3, false}, {11, 3, false}, {15, 3, false},
		{3, 4, false}, {12, 4, false}, {7, 4, true}, {14, 4, true}, {15, 4, true}, {23, 4, false},
		{3, 5, false}, {24, 5, false}, {7, 5, true}, {28, 5, true}, {7 + 32, 5, false},
		{7, 6, false}, {56, 6, false}, {15, 6, true}, {63, 6, true}, {15 + 64, 6, false},
		{7, 7, false}, {112, 7, false}, {15, 7, true}, {120, 7, true}, {127, 7, true}, {128 + 15, 7, false}, {255, 7, false},
		{1, 0, true}, {0, 0, false}, {2, 0, false}, {1, -1, true}, {1, math.MinInt, true}, {3, math.MinInt, false},
		{15, 8, true}, {7, 8, false}, {127, 8, true}, {128, 8, false}, {255, 8, false}, {15, 99, true}, {127, math.MaxInt, true}, {255, math.MaxInt, false}, {1<<40 | 127, 7, false}, {math.MaxInt, 63, false},
		{-1, 1, false}, {-1, 7, false}, {-1, math.MaxInt, false}, {math.MinInt, 7, false}, {math.MinInt + 127, 7, false}, {-128, 7, false},
	} {
		if got := view.Most(x.mask, x.n); got != x.want {
			t.Errorf("Most(%d, %d) is %v", x.mask, x.n, got)
		}
	}
}

// 14.1: Most is what its sentence says.
func TestMostBySentence(t *testing.T) {
	for _, n := range ids() {
		for _, mask := range append(wide(), few()...) {
			if got := view.Most(mask, n); got != mostBySentence(mask, n) {
				t.Fatalf("Most(%d, %d) is %v", mask, n, got)
			}
		}
	}
}

// 14.1: who comes behind whom: known ones, of those who are in the mask, and of those who are not.
func TestKnownAfter(t *testing.T) {
	for _, x := range []struct{ mask, id, want int }{
		{0, 0, -1}, {0, -1, -1}, {0, 6, -1}, {128, 0, -1}, {128, -5, -1}, {-128, 3, -1}, {math.MinInt, math.MaxInt, -1},
		{1, -1, 0}, {1, 0, 0}, {1, 6, 0}, {64, 6, 6}, {64, 0, 6}, {64, 5, 6}, {64, 7, 6},
		{3, 0, 1}, {3, 1, 0}, {5, 0, 2}, {5, 1, 2}, {5, 2, 0}, {5, 3, 0}, {6, 0, 1}, {6, 2, 1}, {6, 5, 1},
		{127, 0, 1}, {127, 5, 6}, {127, 6, 0}, {127, 7, 0}, {255, 6, 0}, {129, 0, 0}, {-1, 6, 0}, {-1, 2, 3},
		{5, -1, 0}, {5, math.MinInt, 0}, {6, math.MinInt, 1}, {5, math.MaxInt, 0}, {6, math.MaxInt, 1},
	} {
		if got := view.After(x.mask, x.id); got != x.want {
			t.Errorf("After(%d, %d) is %d, not %d", x.mask, x.id, got, x.want)
		}
	}
}

// 14.1: After is what its sentence says.
func TestAfterBySentence(t *testing.T) {
	for _, id := range ids() {
		for _, mask := range append(wide(), few()...) {
			if got, want := view.After(mask, id), afterBySentence(mask, id); got != want {
				t.Fatalf("After(%d, %d) is %d, not %d", mask, id, got, want)
			}
		}
	}
}

// 14.1: who goes on with After from any member comes to each of them once, and then to the first again.
func TestAfterGoesRound(t *testing.T) {
	for mask := 1; mask <= 127; mask++ {
		l := view.Members(mask)
		for _, first := range l {
			var seen []int
			id := first
			for range l {
				seen = append(seen, id)
				id = view.After(mask, id)
			}
			slices.Sort(seen)
			if id != first || !slices.Equal(seen, l) {
				t.Errorf("from %d of %v: %v, then %d", first, l, seen, id)
			}
		}
	}
}

// 14.1: limits: known ones, and by their sentence.
func TestLimit(t *testing.T) {
	for _, x := range [][2]int{{0, 400}, {1, 440}, {2, 480}, {3, 520}, {4, 560}, {5, 600}, {6, 640}, {7, 640}, {8, 640}, {-1, 400}, {-40, 400}, {math.MinInt, 400}, {math.MaxInt, 640}} {
		if got := view.Limit(x[0]); got != x[1] {
			t.Errorf("Limit(%d) is %d, not %d", x[0], got, x[1])
		}
	}
	for _, id := range append(wide(), ids()...) {
		if got, want := view.Limit(id), limitBySentence(id); got != want {
			t.Errorf("Limit(%d) is %d, not %d", id, got, want)
		}
	}
}
