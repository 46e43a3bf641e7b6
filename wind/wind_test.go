package wind_test

import (
	"iter"
	"math"
	"runtime"
	"slices"
	"testing"
	"weak"

	"hocket/wind"
)

// highest is the greatest number that a window may begin from.
const highest = 1 << 40

// thing is what most windows here hold.
type thing struct {
	n    int
	list []int
}

// held is a number, and what is at it.
type held struct{ i, n int }

// gone answers what a going through tells.
func gone(s iter.Seq2[int, thing]) []held {
	var l []held
	for i, x := range s {
		l = append(l, held{i, x.n})
	}
	return l
}

// filled answers a window from from on with things at at; each holds its own number, and 1000 more.
func filled(t *testing.T, from int, at ...int) *wind.Window[thing] {
	t.Helper()
	w := wind.New[thing](from)
	for _, i := range at {
		if !w.Put(i, thing{n: i + 1000}) {
			t.Fatalf("from %d: %d can't be put", from, i)
		}
	}
	return w
}

// model is a window word by word of promise 3.1: a table, asked number by number.
type model struct {
	from  int
	there map[int]int
}

// whole is the greatest number up to which all from From and one on are there.
func (m *model) whole() int {
	i := m.from
	for m.has(i + 1) {
		i++
	}
	return i
}

// top is the greatest that is there, From of none.
func (m *model) top() int {
	i := m.from
	for k := range m.there {
		i = max(i, k)
	}
	return i
}

func (m *model) has(i int) bool {
	_, ok := m.there[i]
	return ok
}

func (m *model) put(i, n int) bool {
	if i <= m.from || i > m.whole()+64 || m.has(i) {
		return false
	}
	m.there[i] = n
	return true
}

func (m *model) missing(most int) []int {
	var l []int
	for i := m.from + 1; i < m.top(); i++ {
		if !m.has(i) && len(l) < min(max(most, 0), 64) {
			l = append(l, i)
		}
	}
	return l
}

func (m *model) cut(i int) {
	if i <= m.from || i > m.whole() {
		return
	}
	for k := range m.there {
		if k <= i {
			delete(m.there, k)
		}
	}
	m.from = i
}

func (m *model) all() []held {
	var l []held
	for i, n := range m.there {
		l = append(l, held{i, n})
	}
	slices.SortFunc(l, func(a, b held) int { return a.i - b.i })
	return l
}

// compare tells where a window answers otherwise than its model.
func compare(t *testing.T, w *wind.Window[thing], m *model) {
	t.Helper()
	if w.From() != m.from || w.Whole() != m.whole() || w.Top() != m.top() {
		t.Fatalf("From %d, Whole %d, Top %d, not %d, %d, %d", w.From(), w.Whole(), w.Top(), m.from, m.whole(), m.top())
	}
	for _, most := range []int{-1, 0, 1, 2, 8, 63, 64, 65, math.MaxInt} {
		if got, want := w.Missing(most), m.missing(most); !slices.Equal(got, want) {
			t.Fatalf("Missing(%d) is %d, not %d", most, got, want)
		}
	}
	if got, want := gone(w.All()), m.all(); !slices.Equal(got, want) {
		t.Fatalf("All is %d, not %d", got, want)
	}
	for i := m.from - 3; i <= m.top()+3; i++ {
		if x, ok := w.Get(i); ok != m.has(i) || x.n != m.there[i] || x.list != nil {
			t.Fatalf("Get(%d) is %v, %v, not %d, %v", i, x, ok, m.there[i], m.has(i))
		}
	}
}

// corners are numbers that stand at an edge of the model, or nowhere near it.
func corners(m *model) []int {
	l := []int{math.MinInt, math.MinInt + 1, -highest, -1, 0, 1, highest, highest + 64, math.MaxInt - 1, math.MaxInt}
	for _, i := range []int{m.from, m.whole(), m.whole() + 64, m.top()} {
		l = append(l, i-2, i-1, i, i+1, i+2)
	}
	return l
}

// act does with both what two bytes ask for: most Puts are near the window, the others and the Cuts are anywhere at its edges.
func act(t *testing.T, w *wind.Window[thing], m *model, kind, at byte, n int) {
	t.Helper()
	near := m.from + int(at)%140 - 4
	far := corners(m)[int(at)%len(corners(m))]
	switch kind % 8 {
	case 0, 1, 2, 3, 4:
		if got, want := w.Put(near, thing{n: n}), m.put(near, n); got != want {
			t.Fatalf("Put(%d) is %v", near, got)
		}
	case 5:
		if got, want := w.Put(far, thing{n: n}), m.put(far, n); got != want {
			t.Fatalf("Put(%d) is %v", far, got)
		}
	case 6:
		w.Cut(far)
		m.cut(far)
	case 7:
		// What comes next is put, so that windows get long and whole.
		if i := m.whole() + 1; w.Put(i, thing{n: n}) != m.put(i, n) {
			t.Fatalf("Put(%d) is another", i)
		}
	}
}

// 3.1: the chapter's example, and how it goes on.
func TestKnown(t *testing.T) {
	w := filled(t, 3, 4, 6)
	if w.From() != 3 || w.Whole() != 4 || w.Top() != 6 || !slices.Equal(w.Missing(64), []int{5}) {
		t.Errorf("%d, %d, %d, %d", w.From(), w.Whole(), w.Top(), w.Missing(64))
	}
	if !w.Put(5, thing{n: 7}) || w.From() != 3 || w.Whole() != 6 || w.Top() != 6 || len(w.Missing(64)) != 0 {
		t.Errorf("%d, %d, %d, %d", w.From(), w.Whole(), w.Top(), w.Missing(64))
	}
	if l := gone(w.All()); !slices.Equal(l, []held{{4, 1004}, {5, 7}, {6, 1006}}) {
		t.Error(l)
	}
	w.Cut(5)
	if l := gone(w.All()); w.From() != 5 || w.Whole() != 6 || w.Top() != 6 || !slices.Equal(l, []held{{6, 1006}}) {
		t.Errorf("%d, %d, %d, %v", w.From(), w.Whole(), w.Top(), l)
	}
}

// 3.1: from is held to 0 to 2^40, and a new window has nothing.
func TestNew(t *testing.T) {
	for _, x := range []struct{ from, want int }{
		{math.MinInt, 0}, {-highest, 0}, {-1, 0}, {0, 0}, {1, 1}, {7, 7},
		{highest - 1, highest - 1}, {highest, highest}, {highest + 1, highest}, {math.MaxInt, highest},
	} {
		w := wind.New[thing](x.from)
		compare(t, w, &model{from: x.want})
		if w.Put(x.want, thing{}) || !w.Put(x.want+1, thing{}) || w.Whole() != x.want+1 {
			t.Errorf("New(%d) does not go on from %d", x.from, x.want)
		}
	}
}

// 3.1: what may not be put is not put, and all stays as it was.
func TestPutRefused(t *testing.T) {
	for _, from := range []int{0, 1, 50, highest} {
		m := &model{from: from, there: map[int]int{}}
		w := wind.New[thing](from)
		for _, d := range []int{1, 2, 3, 5, 9, 66, 67} {
			if !w.Put(from+d, thing{n: d}) || !m.put(from+d, d) {
				t.Fatalf("%d can't be put", d)
			}
		}
		for _, i := range []int{from, from - 1, from - 64, -1, math.MinInt, from + 1, from + 3, from + 5, from + 67, from + 68, from + 69, from + 200, 1 << 50, math.MaxInt} {
			if w.Put(i, thing{n: 99}) {
				t.Errorf("from %d: %d is put", from, i)
			}
			compare(t, w, m)
		}
	}
}

// 3.1: Put reaches as far as Whole and 64, wherever From is, and goes along with Whole.
func TestPutReach(t *testing.T) {
	for _, n := range []int{0, 1, 2, 63, 64, 65, 300} {
		w := wind.New[thing](10)
		for i := range n {
			w.Put(11+i, thing{})
		}
		if w.Put(10+n+65, thing{}) || w.Top() != 10+n {
			t.Errorf("of %d: 65 beyond Whole", n)
		}
		if !w.Put(10+n+64, thing{}) || w.Top() != 10+n+64 || w.Whole() != 10+n {
			t.Errorf("of %d: 64 beyond Whole", n)
		}
		w.Cut(10 + n)
		if w.Put(10+n+65, thing{}) || !w.Put(10+n+1, thing{}) || !w.Put(10+n+65, thing{}) {
			t.Errorf("of %d: after Cut", n)
		}
	}
}

// 3.1: what has been cut can't be put again, and what stood beyond a hole counts once the hole is filled.
func TestPutAgain(t *testing.T) {
	w := filled(t, 0, 1, 2, 4, 5, 6, 8)
	w.Cut(2)
	for i := range 3 {
		if w.Put(i, thing{}) {
			t.Errorf("%d is put again", i)
		}
	}
	if !w.Put(3, thing{}) || w.Whole() != 6 || !w.Put(7, thing{}) || w.Whole() != 8 || w.Top() != 8 {
		t.Errorf("Whole %d, Top %d", w.Whole(), w.Top())
	}
}

// 3.1, rule 4: Get answers what was put, and of what is not there a zero value, whatever the window holds.
func TestGet(t *testing.T) {
	w := wind.New[thing](3)
	w.Put(5, thing{7, []int{1, 2}})
	if x, ok := w.Get(5); !ok || x.n != 7 || !slices.Equal(x.list, []int{1, 2}) {
		t.Error(x, ok)
	}
	for _, i := range []int{math.MinInt, -5, 0, 3, 4, 6, 69, math.MaxInt} {
		if x, ok := w.Get(i); ok || x.n != 0 || x.list != nil {
			t.Error(i, x, ok)
		}
	}
	w.Put(4, thing{8, nil})
	w.Cut(4)
	if x, ok := w.Get(4); ok || x.n != 0 {
		t.Error("what was cut is there")
	}
}

// 3.1: a zero value that was put is there.
func TestZeroIsThere(t *testing.T) {
	s := wind.New[[]byte](0)
	if !s.Put(2, nil) || s.Put(2, []byte("x")) || s.Top() != 2 || !slices.Equal(s.Missing(9), []int{1}) {
		t.Error("a list")
	}
	if x, ok := s.Get(2); !ok || x != nil {
		t.Error(x, ok)
	}
	e := wind.New[struct{}](0)
	if !e.Put(1, struct{}{}) || e.Put(1, struct{}{}) || e.Whole() != 1 {
		t.Error("a struct of nothing")
	}
	a := wind.New[any](0)
	a.Put(1, nil)
	n := 0
	for i, x := range a.All() {
		n += i
		if x != nil {
			t.Error(x)
		}
	}
	if n != 1 {
		t.Error("an interface")
	}
	f := wind.New[func() int](0)
	f.Put(1, func() int { return 5 })
	if x, ok := f.Get(1); !ok || x() != 5 {
		t.Error("a function")
	}
}

// 3.1: Missing tells the first holes alone, rising, most of them at most.
func TestMissing(t *testing.T) {
	w := filled(t, 10, 11, 12, 15, 17, 18, 76)
	all := []int{13, 14, 16}
	for i := 19; i < 76; i++ {
		all = append(all, i)
	}
	for most := -2; most < 70; most++ {
		if got, want := w.Missing(most), all[:min(max(most, 0), len(all))]; !slices.Equal(got, want) {
			t.Errorf("Missing(%d) is %d, not %d", most, got, want)
		}
	}
	for _, most := range []int{math.MinInt, math.MaxInt} {
		if got := len(w.Missing(most)); got != 0 && most < 0 || got != len(all) && most > 0 {
			t.Errorf("Missing(%d) is of %d", most, got)
		}
	}
	if l := filled(t, 10, 11, 12, 13).Missing(64); len(l) != 0 {
		t.Errorf("of a whole one %d", l)
	}
	if l := filled(t, 0, 64).Missing(1000); len(l) != 63 || l[0] != 1 || l[62] != 63 {
		t.Errorf("of the greatest hole %d", l)
	}
}

// 3.1: Cut takes what is above From and at most Whole, and nothing else.
func TestCut(t *testing.T) {
	for _, i := range []int{math.MinInt, -1, 0, 9, 10, 15, 16, 17, 18, 80, math.MaxInt} {
		w := filled(t, 10, 11, 12, 13, 14, 16, 17)
		was := gone(w.All())
		w.Cut(i)
		if w.From() != 10 || w.Whole() != 14 || w.Top() != 17 || !slices.Equal(gone(w.All()), was) {
			t.Errorf("Cut(%d): %d, %d, %d", i, w.From(), w.Whole(), w.Top())
		}
	}
	for i := 11; i <= 14; i++ {
		w := filled(t, 10, 11, 12, 13, 14, 16, 17)
		was := gone(w.All())
		w.Cut(i)
		if w.From() != i || w.Whole() != 14 || w.Top() != 17 || !slices.Equal(gone(w.All()), was[i-10:]) || !slices.Equal(w.Missing(64), []int{15}) {
			t.Errorf("Cut(%d): %d, %d, %d", i, w.From(), w.Whole(), w.Top())
		}
	}
	w := filled(t, 10, 11, 12)
	w.Cut(12)
	compare(t, w, &model{from: 12})
}

// 3.1: All may be left at any time, and gone through again, one within another, too.
func TestAllLeft(t *testing.T) {
	w := filled(t, 0, 1, 2, 3, 5, 8, 13, 60)
	want := gone(w.All())
	s := w.All()
	for stop := range len(want) + 1 {
		var got []held
		for i, x := range s {
			if len(got) == stop {
				break
			}
			got = append(got, held{i, x.n})
		}
		if !slices.Equal(got, want[:stop]) {
			t.Errorf("left after %d: %v", stop, got)
		}
		if !slices.Equal(gone(s), want) || !slices.Equal(gone(w.All()), want) {
			t.Errorf("left after %d: not the same again", stop)
		}
	}
	n := 0
	for range s {
		for range s {
			n++
		}
	}
	if n != len(want)*len(want) {
		t.Errorf("one within another: %d", n)
	}
}

// 3.1: who leaves is told nothing more.
func TestAllStops(t *testing.T) {
	w := filled(t, 0, 1, 2, 5)
	told := 0
	w.All()(func(int, thing) bool {
		told++
		return told < 2
	})
	if told != 2 {
		t.Errorf("told %d", told)
	}
	for range wind.New[thing](4).All() {
		t.Error("of nothing")
	}
}

// 3.1, rule 3: All is what was there when it was asked for, whatever is put and cut behind that.
func TestAllIsNew(t *testing.T) {
	w := filled(t, 0, 1, 2, 4)
	s := w.All()
	want := gone(s)
	w.Put(3, thing{n: 3})
	w.Put(9, thing{n: 9})
	w.Cut(2)
	if got := gone(s); !slices.Equal(got, want) {
		t.Errorf("%v, not %v", got, want)
	}
	if got := gone(w.All()); !slices.Equal(got, []held{{3, 3}, {4, 1004}, {9, 9}}) {
		t.Errorf("asked for anew: %v", got)
	}
}

// 3.1, rule 2: who puts and cuts while going through comes to an end.
func TestAllWhileItChanges(t *testing.T) {
	w := filled(t, 0, 1, 2, 3)
	var got []int
	for i := range w.All() {
		got = append(got, i)
		w.Put(w.Whole()+1, thing{n: -1})
		w.Cut(i)
	}
	if !slices.Equal(got, []int{1, 2, 3}) || w.From() != 3 || w.Whole() != 6 {
		t.Errorf("%d, From %d, Whole %d", got, w.From(), w.Whole())
	}
}

// Rule 3: what is answered is the caller's alone.
func TestMissingIsNew(t *testing.T) {
	w := filled(t, 0, 3, 6)
	l := w.Missing(64)
	clear(l[:cap(l)])
	if got := w.Missing(64); !slices.Equal(got, []int{1, 2, 4, 5}) {
		t.Errorf("%d", got)
	}
	compare(t, w, &model{from: 0, there: map[int]int{3: 1003, 6: 1006}})
}

// Rule 6: a window is its own, and the same acts do the same.
func TestWindowsApart(t *testing.T) {
	a, b, c := filled(t, 2, 3, 5), wind.New[thing](2), filled(t, 2, 5, 3)
	compare(t, b, &model{from: 2})
	if !slices.Equal(gone(a.All()), gone(c.All())) || a.Whole() != c.Whole() {
		t.Error("another order of Puts is another window")
	}
	a.Cut(3)
	compare(t, c, &model{from: 2, there: map[int]int{3: 1003, 5: 1005}})
}

// 3.1: what is cut, or is not put, is let go: nothing of it is kept.
func TestLetGo(t *testing.T) {
	w := wind.New[*thing](0)
	var cut, refused, stays weak.Pointer[thing]
	func() {
		x, y, z := &thing{n: 1}, &thing{n: 2}, &thing{n: 3}
		cut, refused, stays = weak.Make(x), weak.Make(y), weak.Make(z)
		w.Put(1, x)
		w.Put(1, y)
		w.Put(2, z)
		w.Cut(1)
	}()
	runtime.GC()
	if cut.Value() != nil || refused.Value() != nil {
		t.Error("something is kept")
	}
	if stays.Value() == nil || stays.Value().n != 3 {
		t.Error("what is there is gone")
	}
	if x, ok := w.Get(2); !ok || x.n != 3 {
		t.Error(x, ok)
	}
}

// 3.2, W2: whatever is put, in any order, what is whole has no hole, and the number behind it is missing.
func TestWholeHasNoHole(t *testing.T) {
	for step := 1; step < 61; step++ {
		w := wind.New[thing](100)
		for k := range 61 {
			// 61 is a prime: each number comes once.
			w.Put(101+k*step%61, thing{n: k})
			for i := w.From() + 1; i <= w.Whole(); i++ {
				if _, ok := w.Get(i); !ok {
					t.Fatalf("step %d: %d is missing up to %d", step, i, w.Whole())
				}
			}
			if _, ok := w.Get(w.Whole() + 1); ok {
				t.Fatalf("step %d: %d is there, behind Whole", step, w.Whole()+1)
			}
		}
		if w.Whole() != 161 || w.Top() != 161 {
			t.Errorf("step %d: %d", step, w.Whole())
		}
	}
}

// 3.2: a long window that goes along stays whole, and nothing in it is another.
func TestLongWindow(t *testing.T) {
	w := wind.New[int](0)
	const n = 20000
	for i := 1; i <= n; i += 2 {
		if !w.Put(i+1, i+1) || !w.Put(i, i) || w.Whole() != i+1 {
			t.Fatal(i)
		}
		if i > 500 {
			w.Cut(i - 500)
		}
	}
	next := w.From() + 1
	for i, x := range w.All() {
		if i != next || x != i {
			t.Fatal(i, x, next)
		}
		next++
	}
	if next != n+1 || w.From() != n-1-500 {
		t.Error(next, w.From())
	}
}

// 3.1 to 3.3: whatever is done in whatever order, the window is its model.
func TestAnyActs(t *testing.T) {
	x := uint32(2463534242)
	some := func() byte {
		x ^= x << 13
		x ^= x >> 17
		x ^= x << 5
		return byte(x >> 8)
	}
	for _, from := range []int{-1, 0, 1, 77, highest, math.MaxInt} {
		w := wind.New[thing](from)
		m := &model{from: w.From(), there: map[int]int{}}
		for n := range 600 {
			act(t, w, m, some(), some(), n+1)
			compare(t, w, m)
		}
		if w.From() == m.from && len(m.there) == 0 {
			t.Error("nothing was done")
		}
	}
}

// 3.3: no number that is handed in makes a call panic, and a window that had them goes on.
func TestNoPanic(t *testing.T) {
	edges := []int{math.MinInt, math.MinInt + 1, math.MinInt + 64, -highest, -65, -1, 0, 1, 64, 65, highest, highest + 65, math.MaxInt - 64, math.MaxInt - 1, math.MaxInt}
	for _, from := range edges {
		w := wind.New[thing](from)
		m := &model{from: w.From(), there: map[int]int{}}
		for _, i := range edges {
			w.Get(i)
			w.Missing(i)
			w.Cut(i)
			m.cut(i)
			if w.Put(i, thing{n: 1}) != m.put(i, 1) {
				t.Errorf("from %d: Put(%d)", from, i)
			}
			compare(t, w, m)
		}
	}
	filled(t, 0, 1, 3).All()(nil)
	wind.New[thing](0).All()(nil)
}

// 3.3: whatever is asked for, no call panics, and all end and answer as the promises say.
func FuzzWindow(f *testing.F) {
	f.Add(0, []byte(nil))
	f.Add(3, []byte{0, 5, 0, 7, 0, 6, 6, 11, 7, 0})
	f.Add(math.MaxInt, []byte{5, 9, 5, 24, 7, 0, 7, 0, 6, 17, 0, 5})
	f.Add(-9, []byte{7, 0, 7, 0, 7, 0, 0, 70, 6, 16, 6, 17, 6, 18, 0, 80})
	f.Fuzz(func(t *testing.T, from int, acts []byte) {
		w := wind.New[thing](from)
		m := &model{from: min(max(from, 0), highest), there: map[int]int{}}
		// Of more acts the model, which counts from the beginning each time, takes too long.
		acts = acts[:min(len(acts), 400)]
		for n := 0; n+1 < len(acts); n += 2 {
			act(t, w, m, acts[n], acts[n+1], n+1)
		}
		compare(t, w, m)
	})
}
