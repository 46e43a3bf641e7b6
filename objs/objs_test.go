package objs_test

import (
	"bytes"
	"fmt"
	"maps"
	"math"
	"slices"
	"strings"
	"testing"

	"hocket/api"
	"hocket/fifo"
	"hocket/lock"
	mapsof "hocket/maps"
	"hocket/objs"
	"hocket/regs"
)

// The kinds' numbers, as the document lays them.
const (
	read = iota + 1
	write
	cas
	push
	pop
	take
	free
	owner
	put
	get
	del
)

// mostWho is the greatest Who, and longest how many bytes each list of an Ok command has at most.
const (
	mostWho = 999
	longest = 32
)

// pair is a key with its value, as texts.
type pair struct{ key, val string }

// b is a text as bytes.
func b(s string) []byte { return []byte(s) }

// of is objects of these, each list of bytes in memory of its own.
func of(reg string, queue []string, row []int, pairs ...pair) api.Objects {
	s := api.Objects{Reg: b(reg), Lock: slices.Clone(row)}
	for _, v := range queue {
		s.Queue = append(s.Queue, b(v))
	}
	for _, p := range pairs {
		s.Map = append(s.Map, api.Pair{Key: b(p.key), Val: b(p.val)})
	}
	return s
}

// told is objects as a text, in which nil is an empty list.
func told(s api.Objects) string {
	return fmt.Sprintf("register %q, queue %q, lock %v, map %q", s.Reg, s.Queue, s.Lock, s.Map)
}

// toldResult is a result as a text, in which nil is an empty list.
func toldResult(r api.Result) string {
	return fmt.Sprintf("error %d, Val %q, N %d", r.Err, r.Val, r.N)
}

// gone is what Apply answered, as a text.
func gone(s api.Objects, r api.Result) string {
	return told(s) + ": " + toldResult(r)
}

// toldCmd is a command as a text.
func toldCmd(c api.Cmd) string {
	return fmt.Sprintf("Kind %d, Who %d, Key %q, Val %q, Old %q", c.Kind, c.Who, c.Key, c.Val, c.Old)
}

// byLayers is Apply, word by word of promise 8.1, by the layers ahead.
func byLayers(s api.Objects, c api.Cmd) (api.Objects, api.Result) {
	far := c.Who < 0 || c.Who > mostWho
	var r api.Result
	switch {
	case c.Kind == read:
		r = regs.Read(s.Reg)
	case c.Kind == write:
		s.Reg, r = regs.Write(s.Reg, c.Val)
	case c.Kind == cas:
		s.Reg, r = regs.Cas(s.Reg, c.Old, c.Val)
	case c.Kind == push:
		s.Queue, r = fifo.Push(s.Queue, c.Val)
	case c.Kind == pop:
		s.Queue, r = fifo.Pop(s.Queue)
	case c.Kind == take && !far:
		s.Lock, r = lock.Take(s.Lock, c.Who)
	case c.Kind == free && !far:
		s.Lock, r = lock.Free(s.Lock, c.Who)
	case c.Kind == owner:
		r = lock.Owner(s.Lock)
	case c.Kind == put:
		s.Map, r = mapsof.Put(s.Map, c.Key, c.Val)
	case c.Kind == get:
		r = mapsof.Get(s.Map, c.Key)
	case c.Kind == del:
		s.Map, r = mapsof.Del(s.Map, c.Key)
	default:
		r.Err = 7
	}
	return s, r
}

// letters are n texts, each another, rising.
func letters(n int) []string {
	var l []string
	for i := range n {
		l = append(l, fmt.Sprintf("b%d", i))
	}
	return l
}

// people are n numbers, each another.
func people(n int) []int {
	var l []int
	for i := range n {
		l = append(l, 3*i)
	}
	return l
}

// pairs are n pairs, rising, each with a value of its own.
func pairs(n int) []pair {
	var l []pair
	for i, k := range letters(n) {
		l = append(l, pair{k, fmt.Sprint("v", i)})
	}
	return l
}

// states are objects of each count about the bounds, in all four and in one alone, and such as no call would have let be.
func states() []api.Objects {
	far := strings.Repeat("f", 40)
	l := []api.Objects{{}, of("a", nil, nil), of("", letters(1), nil), of("", nil, people(1)), of("", nil, nil, pairs(1)...), of("", []string{""}, []int{0}, pair{})}
	for _, n := range []int{1, 2, 4, 5, 6, 7, 8, 9, 10} {
		l = append(l, of("a", letters(n), people(n), pairs(n)...))
	}
	l = append(l, of(far, nil, nil), of(far, []string{far, far}, []int{-1, 1000, math.MaxInt, math.MinInt}, pair{far, far}))
	l = append(l, of("a", nil, []int{3, 3, 0, 3}, pair{"b1", "x"}, pair{"b0", "y"}, pair{"b1", "z"}))
	return append(l, of("b0", []string{"a", "a"}, []int{999, 0}, pair{"a", "b0"}, pair{"b0", "a"}))
}

// commands are those of each kind, and of none, with fields that count and fields that do not, about all bounds.
func commands() []api.Cmd {
	var l []api.Cmd
	lists := []string{"", "a", "b0", "b1", strings.Repeat("k", 8), strings.Repeat("k", 9), strings.Repeat("v", 16), strings.Repeat("v", 17), strings.Repeat("f", 32), strings.Repeat("f", 33), strings.Repeat("f", 40)}
	for kind := -2; kind < 15; kind++ {
		for _, who := range []int{math.MinInt, -1, 0, 3, 998, 999, 1000, math.MaxInt} {
			l = append(l, api.Cmd{Kind: kind, Who: who}, api.Cmd{Kind: kind, Who: who, Key: b("b0"), Val: b("a"), Old: b("b1")})
		}
		for i, x := range lists {
			y, z := lists[(i+1)%len(lists)], lists[(i+4)%len(lists)]
			l = append(l, api.Cmd{Kind: kind, Key: b(x)}, api.Cmd{Kind: kind, Val: b(x)}, api.Cmd{Kind: kind, Old: b(x)}, api.Cmd{Kind: kind, Key: b(x), Val: b(y), Old: b(z)}, api.Cmd{Kind: kind, Who: 3, Key: b("a"), Val: b(x), Old: b(z)})
		}
	}
	return l
}

// 8.1: the kinds' numbers, and the error's.
func TestNumbers(t *testing.T) {
	kinds := []int{api.CRead, api.CWrite, api.CCas, api.CPush, api.CPop, api.CTake, api.CFree, api.COwner, api.CPut, api.CGet, api.CDel}
	if !slices.Equal(kinds, []int{1, 2, 3, 4, 5, 6, 7, 8, 9, 10, 11}) || !slices.Equal(kinds, []int{read, write, cas, push, pop, take, free, owner, put, get, del}) {
		t.Error(kinds)
	}
	if api.ErrCmd != 7 {
		t.Error(api.ErrCmd)
	}
}

// 8.1: answers that are known, of commands one behind the other, from the empty objects on.
func TestKnown(t *testing.T) {
	long, far := strings.Repeat("v", 16), strings.Repeat("v", 17)
	key, farKey := strings.Repeat("k", 8), strings.Repeat("k", 9)
	var s api.Objects
	for i, x := range []struct {
		c    api.Cmd
		want api.Result
		next api.Objects
	}{
		{api.Cmd{}, api.Result{Err: 7}, of("", nil, nil)},
		{api.Cmd{Kind: read}, api.Result{}, of("", nil, nil)},
		{api.Cmd{Kind: pop}, api.Result{Err: 4}, of("", nil, nil)},
		{api.Cmd{Kind: owner}, api.Result{Err: 5}, of("", nil, nil)},
		{api.Cmd{Kind: free, Who: 1}, api.Result{Err: 5}, of("", nil, nil)},
		{api.Cmd{Kind: get, Key: b("k")}, api.Result{Err: 5}, of("", nil, nil)},
		{api.Cmd{Kind: del, Key: b("k")}, api.Result{Err: 5}, of("", nil, nil)},
		{api.Cmd{Kind: cas, Old: b("x"), Val: b("y")}, api.Result{Err: 2}, of("", nil, nil)},
		{api.Cmd{Kind: cas, Val: b("y")}, api.Result{}, of("y", nil, nil)},
		{api.Cmd{Kind: write, Val: b(long)}, api.Result{}, of(long, nil, nil)},
		{api.Cmd{Kind: write, Val: b(far)}, api.Result{Err: 1}, of(long, nil, nil)},
		{api.Cmd{Kind: cas, Old: b("x"), Val: b("a")}, api.Result{Err: 2, Val: b(long)}, of(long, nil, nil)},
		{api.Cmd{Kind: cas, Old: b("x"), Val: b(far)}, api.Result{Err: 1}, of(long, nil, nil)},
		{api.Cmd{Kind: cas, Old: b(long), Val: b("a")}, api.Result{}, of("a", nil, nil)},
		{api.Cmd{Kind: read}, api.Result{Val: b("a")}, of("a", nil, nil)},
		{api.Cmd{Kind: push, Val: b("p")}, api.Result{N: 1}, of("a", []string{"p"}, nil)},
		{api.Cmd{Kind: push, Val: b(far)}, api.Result{Err: 1}, of("a", []string{"p"}, nil)},
		{api.Cmd{Kind: push}, api.Result{N: 2}, of("a", []string{"p", ""}, nil)},
		{api.Cmd{Kind: pop}, api.Result{Val: b("p")}, of("a", []string{""}, nil)},
		{api.Cmd{Kind: take, Who: 999}, api.Result{}, of("a", []string{""}, []int{999})},
		{api.Cmd{Kind: take}, api.Result{N: 1}, of("a", []string{""}, []int{999, 0})},
		{api.Cmd{Kind: take, Who: 999}, api.Result{Err: 6}, of("a", []string{""}, []int{999, 0})},
		{api.Cmd{Kind: take, Who: 1000}, api.Result{Err: 7}, of("a", []string{""}, []int{999, 0})},
		{api.Cmd{Kind: free, Who: -1}, api.Result{Err: 7}, of("a", []string{""}, []int{999, 0})},
		{api.Cmd{Kind: owner}, api.Result{N: 999}, of("a", []string{""}, []int{999, 0})},
		{api.Cmd{Kind: free, Who: 999}, api.Result{}, of("a", []string{""}, []int{0})},
		{api.Cmd{Kind: free}, api.Result{N: -1}, of("a", []string{""}, nil)},
		{api.Cmd{Kind: put, Key: b(key), Val: b(long)}, api.Result{N: 1}, of("a", []string{""}, nil, pair{key, long})},
		{api.Cmd{Kind: put, Key: b(farKey), Val: b("v")}, api.Result{Err: 1}, of("a", []string{""}, nil, pair{key, long})},
		{api.Cmd{Kind: put, Key: b("j"), Val: b(far)}, api.Result{Err: 1}, of("a", []string{""}, nil, pair{key, long})},
		{api.Cmd{Kind: put, Key: b("j"), Val: b("v")}, api.Result{N: 2}, of("a", []string{""}, nil, pair{"j", "v"}, pair{key, long})},
		{api.Cmd{Kind: put, Key: b("j"), Val: b("w")}, api.Result{Val: b("v"), N: 2}, of("a", []string{""}, nil, pair{"j", "w"}, pair{key, long})},
		{api.Cmd{Kind: get, Key: b(key)}, api.Result{Val: b(long)}, of("a", []string{""}, nil, pair{"j", "w"}, pair{key, long})},
		{api.Cmd{Kind: del, Key: b(key)}, api.Result{Val: b(long)}, of("a", []string{""}, nil, pair{"j", "w"})},
		{api.Cmd{Kind: 12}, api.Result{Err: 7}, of("a", []string{""}, nil, pair{"j", "w"})},
		{api.Cmd{Kind: -1}, api.Result{Err: 7}, of("a", []string{""}, nil, pair{"j", "w"})},
	} {
		next, r := objs.Apply(s, x.c)
		if got, want := gone(next, r), gone(x.next, x.want); got != want {
			t.Fatalf("%d: %s: %s, not %s", i, toldCmd(x.c), got, want)
		}
		s = next
	}
}

// 8.1: each of the four that is full tells so, and is left as it is.
func TestKnownFull(t *testing.T) {
	s := of("a", letters(8), people(5), pairs(8)...)
	for i, x := range []struct {
		c    api.Cmd
		want api.Result
	}{
		{api.Cmd{Kind: push, Val: b("a")}, api.Result{Err: 3}},
		{api.Cmd{Kind: take, Who: 1}, api.Result{Err: 3}},
		{api.Cmd{Kind: take, Who: 1000}, api.Result{Err: 7}},
		{api.Cmd{Kind: put, Key: b("a")}, api.Result{Err: 3}},
	} {
		if got, want := gone(objs.Apply(s, x.c)), gone(s, x.want); got != want {
			t.Errorf("%d: %s: %s, not %s", i, toldCmd(x.c), got, want)
		}
	}
}

// 8.1: whatever the objects and the command are, what is answered is what the layer of its kind answers, the other three stay, and with an error all do.
func TestByLayers(t *testing.T) {
	for _, s := range states() {
		for _, c := range commands() {
			next, r := objs.Apply(s, c)
			if got, want := gone(next, r), gone(byLayers(s, c)); got != want {
				t.Errorf("%s, of %s: %s, not %s", toldCmd(c), told(s), got, want)
			}
			if r.Err != api.OK && told(next) != told(s) {
				t.Errorf("%s, of %s: error %d, and %s", toldCmd(c), told(s), r.Err, told(next))
			}
		}
	}
}

// 8.1: of each number but the eleven there is no command: it is none by its last bits either.
func TestEachKind(t *testing.T) {
	kinds := []int{math.MinInt, math.MinInt + 1, math.MinInt + 7, -1 << 32, math.MaxInt, math.MaxInt - 1}
	for kind := range 12 {
		for _, far := range []int{1 << 8, 1 << 16, 1 << 31, 1 << 32, 1 << 62} {
			kinds = append(kinds, kind+far, kind-far)
		}
	}
	for kind := -300; kind < 600; kind++ {
		kinds = append(kinds, kind)
	}
	s := of("a", letters(2), people(2), pairs(2)...)
	for _, kind := range kinds {
		is := kind >= 1 && kind <= 11
		next, r := objs.Apply(s, api.Cmd{Kind: kind, Key: b("b0"), Val: b("x"), Old: b("a")})
		if is != (r.Err != api.ErrCmd) || !is && gone(next, r) != gone(s, api.Result{Err: 7}) {
			t.Errorf("Kind %d: %s", kind, gone(next, r))
		}
		if objs.Ok(api.Cmd{Kind: kind}) != is {
			t.Errorf("Kind %d: Ok is %v", kind, !is)
		}
	}
}

// 8.1: 0 to 999 may take and free the lock, others may not, those that are in it neither; of the other kinds Who does not count.
func TestEachWho(t *testing.T) {
	all := []int{math.MinInt, math.MinInt + 1, -1 << 32, -1000, 2000, 65536, 1<<31 - 1, 1 << 31, 1 << 32, 1<<32 + 1, math.MaxInt - 1, math.MaxInt}
	for who := -300; who < 1300; who++ {
		all = append(all, who)
	}
	for _, who := range all {
		is := who >= 0 && who <= mostWho
		for _, row := range [][]int{nil, {who}, {5000, who}, {5000, 5001, 5002, 5003, who}, {5000, 5001, 5002, 5003, 5004}} {
			s := of("a", nil, row)
			for _, kind := range []int{take, free} {
				c := api.Cmd{Kind: kind, Who: who}
				next, r := objs.Apply(s, c)
				if is != (r.Err != api.ErrCmd) || !is && gone(next, r) != gone(s, api.Result{Err: 7}) {
					t.Errorf("%s, of %v: %s", toldCmd(c), row, gone(next, r))
				}
			}
		}
		for kind := read; kind <= del; kind++ {
			c := api.Cmd{Kind: kind, Who: who, Key: b("b0"), Val: b("x"), Old: b("a")}
			plain := c
			plain.Who = 0
			s := of("a", letters(2), people(2), pairs(2)...)
			if got, want := gone(objs.Apply(s, c)), gone(objs.Apply(s, plain)); kind != take && kind != free && got != want {
				t.Errorf("%s: %s, not %s", toldCmd(c), got, want)
			}
			if objs.Ok(c) != is {
				t.Errorf("%s: Ok is %v", toldCmd(c), !is)
			}
		}
	}
}

// 8.1: what a kind does not name does not count.
func TestNotNamed(t *testing.T) {
	s := of("a", letters(2), people(2), pairs(2)...)
	named := map[int]string{write: "val", cas: "old val", push: "val", put: "key val", get: "key", del: "key"}
	for kind := -2; kind < 15; kind++ {
		for _, x := range []string{"", "a", "b0", "b1", strings.Repeat("f", 17), strings.Repeat("f", 33), strings.Repeat("f", 400)} {
			for _, field := range []string{"key", "val", "old"} {
				c := api.Cmd{Kind: kind, Who: 3, Key: b("b0"), Val: b("x"), Old: b("a")}
				want := gone(objs.Apply(s, c))
				switch field {
				case "key":
					c.Key = b(x)
				case "val":
					c.Val = b(x)
				default:
					c.Old = b(x)
				}
				if got := gone(objs.Apply(s, c)); !strings.Contains(named[kind], field) && got != want {
					t.Errorf("%s: %s, not %s", toldCmd(c), got, want)
				}
			}
		}
	}
}

// 8.1: Ok tells if the kind is one of the eleven, Who is 0 to 999, and each list has at most 32 bytes, whatever they are, and whether the kind names them or not.
func TestOk(t *testing.T) {
	for kind := -2; kind < 15; kind++ {
		for _, who := range []int{math.MinInt, -1, 0, 1, 500, 999, 1000, math.MaxInt} {
			for _, k := range []int{0, 8, 9, 31, 32, 33, 34, 288} {
				for _, v := range []int{0, 16, 17, 32, 33, 256} {
					for _, o := range []int{0, 16, 32, 33, 512} {
						c := api.Cmd{Kind: kind, Who: who, Key: make([]byte, k), Val: bytes.Repeat([]byte{0xff}, v), Old: make([]byte, o)}
						want := kind >= 1 && kind <= 11 && who >= 0 && who <= mostWho && k <= longest && v <= longest && o <= longest
						if objs.Ok(c) != want {
							t.Errorf("Kind %d, Who %d, %d, %d, %d bytes: %v", kind, who, k, v, o, !want)
						}
					}
				}
			}
		}
	}
	if objs.Ok(api.Cmd{}) {
		t.Error("the zero one is Ok")
	}
}

// 8.1: Apply asks for nothing that its sentence does not: a command that is not Ok by a list that is too long is its layer's.
func TestNotOkIsApplied(t *testing.T) {
	far := b(strings.Repeat("f", 33))
	s := of(string(far), letters(2), people(2), pairs(2)...)
	for i, x := range []struct {
		c    api.Cmd
		want string
	}{
		{api.Cmd{Kind: read, Who: 1000, Val: far}, gone(s, api.Result{Val: far})},
		{api.Cmd{Kind: write, Val: far}, gone(s, api.Result{Err: 1})},
		{api.Cmd{Kind: cas, Old: append(far, 'x'), Val: b("a")}, gone(s, api.Result{Err: 2, Val: far})},
		{api.Cmd{Kind: cas, Old: far, Val: b("a")}, gone(of("a", letters(2), people(2), pairs(2)...), api.Result{})},
		{api.Cmd{Kind: push, Val: far}, gone(s, api.Result{Err: 1})},
		{api.Cmd{Kind: owner, Who: -1}, gone(s, api.Result{})},
		{api.Cmd{Kind: put, Key: far}, gone(s, api.Result{Err: 1})},
		{api.Cmd{Kind: get, Key: far}, gone(s, api.Result{Err: 5})},
		{api.Cmd{Kind: del, Key: far}, gone(s, api.Result{Err: 5})},
	} {
		if got := gone(objs.Apply(s, x.c)); got != x.want || objs.Ok(x.c) {
			t.Errorf("%d: %s: %s, not %s; Ok %v", i, toldCmd(x.c), got, x.want, objs.Ok(x.c))
		}
	}
}

// turned are s with one thing turned, each another.
func turned(s api.Objects) []api.Objects {
	var l []api.Objects
	turn := func(f func(x *api.Objects)) {
		x := again(s)
		f(&x)
		l = append(l, x)
	}
	for i := range s.Reg {
		turn(func(x *api.Objects) { x.Reg[i] ^= 1 })
	}
	turn(func(x *api.Objects) { x.Reg = append(x.Reg, 0) })
	for i := range s.Queue {
		turn(func(x *api.Objects) { x.Queue[i] = append(x.Queue[i], 0) })
		turn(func(x *api.Objects) { x.Queue = slices.Delete(x.Queue, i, i+1) })
	}
	turn(func(x *api.Objects) { x.Queue = append(x.Queue, nil) })
	for i := range s.Lock {
		turn(func(x *api.Objects) { x.Lock[i] ^= 1 << 40 })
		turn(func(x *api.Objects) { x.Lock = slices.Delete(x.Lock, i, i+1) })
	}
	turn(func(x *api.Objects) { x.Lock = append(x.Lock, 0) })
	for i := range s.Map {
		turn(func(x *api.Objects) { x.Map[i].Key = append(x.Map[i].Key, 0) })
		turn(func(x *api.Objects) { x.Map[i].Val = append(x.Map[i].Val, 0) })
		turn(func(x *api.Objects) { x.Map = slices.Delete(x.Map, i, i+1) })
	}
	turn(func(x *api.Objects) { x.Map = append(x.Map, api.Pair{}) })
	return l
}

// again is s in memory of its own.
func again(s api.Objects) api.Objects {
	x := api.Objects{Reg: bytes.Clone(s.Reg), Lock: slices.Clone(s.Lock)}
	for _, v := range s.Queue {
		x.Queue = append(x.Queue, bytes.Clone(v))
	}
	for _, p := range s.Map {
		x.Map = append(x.Map, api.Pair{Key: bytes.Clone(p.Key), Val: bytes.Clone(p.Val)})
	}
	return x
}

// 8.1: Same tells if all four are the same, wherever their memory is, and one turned thing is told.
func TestSame(t *testing.T) {
	all := states()
	for i, s := range all {
		if !objs.Same(s, s) || !objs.Same(s, again(s)) || !objs.Same(again(s), s) {
			t.Errorf("%s is not the same", told(s))
		}
		for _, x := range turned(s) {
			if objs.Same(s, x) || objs.Same(x, s) {
				t.Errorf("%s, and %s, are the same", told(s), told(x))
			}
		}
		for k, x := range all {
			if objs.Same(s, x) != (told(s) == told(x)) || objs.Same(s, x) != (i == k) {
				t.Errorf("%s, and %s: %v", told(s), told(x), objs.Same(s, x))
			}
		}
	}
	// What stands in another place is another thing.
	alike := []api.Objects{
		of("ab", nil, nil), of("", []string{"ab"}, nil), of("", []string{"a", "b"}, nil), of("", []string{"b", "a"}, nil), of("", []string{"ab", ""}, nil), of("", []string{"", "ab"}, nil),
		of("", nil, []int{1, 2}), of("", nil, []int{2, 1}), of("", nil, []int{12}),
		of("", nil, nil, pair{"a", "b"}), of("", nil, nil, pair{"b", "a"}), of("", nil, nil, pair{"ab", ""}), of("", nil, nil, pair{"", "ab"}), of("", nil, nil, pair{"a", ""}, pair{"b", ""}), of("", nil, nil, pair{"b", ""}, pair{"a", ""}),
	}
	for i, x := range alike {
		for k, y := range alike {
			if objs.Same(x, y) != (i == k) {
				t.Errorf("%s, and %s: %v", told(x), told(y), i != k)
			}
		}
	}
}

// 8.1: SameResult tells if Err, Val and N are the same, wherever their memory is.
func TestSameResult(t *testing.T) {
	var l []api.Result
	for _, err := range []api.Errno{0, 1, 7, -1, 1 << 40} {
		for _, val := range []string{"", "a", "b", "ab", "\x00", "aa"} {
			for _, n := range []int{0, 1, -1, 1 << 40, math.MinInt} {
				l = append(l, api.Result{Err: err, Val: b(val), N: n})
			}
		}
	}
	for i, r := range l {
		for k, x := range l {
			x.Val = bytes.Clone(x.Val)
			if objs.SameResult(r, x) != (i == k) {
				t.Errorf("%s, and %s: %v", toldResult(r), toldResult(x), i != k)
			}
		}
	}
}

// 8.1, rule 1: nil is an empty list, in objects, in commands and in results; an empty value in a row is one still.
func TestNilIsEmpty(t *testing.T) {
	none := []api.Objects{{}, {Reg: []byte{}, Queue: [][]byte{}, Lock: []int{}, Map: []api.Pair{}}, {Reg: b("a")[:0], Queue: make([][]byte, 3)[:0], Lock: []int{1}[:0], Map: make([]api.Pair, 3)[:0]}}
	within := []api.Objects{{Queue: [][]byte{nil}, Map: []api.Pair{{}}}, {Queue: [][]byte{{}}, Map: []api.Pair{{Key: []byte{}, Val: []byte{}}}}, {Queue: [][]byte{b("a")[:0]}, Map: []api.Pair{{Key: b("a")[:0], Val: b("b")[:0]}}}}
	for _, l := range [][]api.Objects{none, within} {
		for i, s := range l {
			for k, x := range l {
				if !objs.Same(s, x) {
					t.Errorf("%d, %d are not the same", i, k)
				}
			}
			for _, c := range commands() {
				if got, want := gone(objs.Apply(s, c)), gone(byLayers(l[0], c)); got != want {
					t.Errorf("%d: %s: %s, not %s", i, toldCmd(c), got, want)
				}
			}
		}
	}
	for i, s := range none {
		for k, x := range within {
			if objs.Same(s, x) || objs.Same(x, s) || objs.Same(s, api.Objects{Queue: x.Queue}) || objs.Same(s, api.Objects{Map: x.Map}) {
				t.Errorf("%d is %d", i, k)
			}
		}
	}
	lists := [][]byte{nil, {}, b("a")[:0]}
	for i, x := range lists {
		for k, y := range lists {
			if !objs.SameResult(api.Result{Val: x, N: 1}, api.Result{Val: y, N: 1}) {
				t.Errorf("results %d, %d are not the same", i, k)
			}
		}
		for kind := read; kind <= del; kind++ {
			s := of("", []string{""}, people(1), pair{"", "v"})
			c := api.Cmd{Kind: kind, Key: x, Val: x, Old: x}
			if got, want := gone(objs.Apply(s, c)), gone(byLayers(s, api.Cmd{Kind: kind})); got != want || !objs.Ok(c) {
				t.Errorf("%d: Kind %d: %s, not %s; Ok %v", i, kind, got, want, objs.Ok(c))
			}
		}
	}
}

// asked is objects and a command whose bytes lie in one room, with spare room behind each list, and what all that was.
type asked struct {
	s, was        api.Objects
	c             api.Cmd
	room, roomWas []byte
	at            int
}

// place lays x into the room, with spare room behind it.
func (a *asked) place(x []byte) []byte {
	a.at += 64
	return append(a.room[a.at-64:a.at-64:a.at], x...)
}

// ask lays s and c so; behind queue, lock and map stand three more, that are not theirs.
func ask(s api.Objects, c api.Cmd) *asked {
	a := &asked{room: bytes.Repeat([]byte{0x5a}, 64*(len(s.Queue)+2*len(s.Map)+16))}
	more := append(slices.Clone(s.Queue), b("spare"), b("spare"), b("spare"))
	for _, v := range more {
		a.was.Queue = append(a.was.Queue, a.place(v))
	}
	a.was.Lock = append(slices.Clone(s.Lock), 700, 701, 702)
	room := api.Pair{Key: b("spare"), Val: b("room")}
	for _, p := range append(slices.Clone(s.Map), room, room, room) {
		a.was.Map = append(a.was.Map, api.Pair{Key: a.place(p.Key), Val: a.place(p.Val)})
	}
	a.s = api.Objects{Reg: a.place(s.Reg), Queue: slices.Clone(a.was.Queue)[:len(s.Queue)], Lock: slices.Clone(a.was.Lock)[:len(s.Lock)], Map: slices.Clone(a.was.Map)[:len(s.Map)]}
	a.c = api.Cmd{Kind: c.Kind, Who: c.Who, Key: a.place(c.Key), Val: a.place(c.Val), Old: a.place(c.Old)}
	a.roomWas = bytes.Clone(a.room)
	return a
}

// alike tells if x and y are the same bytes in the same place.
func alike(x, y []byte) bool {
	return len(x) == len(y) && cap(x) == cap(y) && &x[:1][0] == &y[:1][0]
}

// stays tells if all that was handed in is what it was, with the room behind it; lists are held to their places too, so that none is changed for another of the same bytes.
func (a *asked) stays() bool {
	rowsStay := slices.EqualFunc(a.s.Queue[:len(a.was.Queue)], a.was.Queue, alike) &&
		slices.Equal(a.s.Lock[:len(a.was.Lock)], a.was.Lock) &&
		slices.EqualFunc(a.s.Map[:len(a.was.Map)], a.was.Map, func(x, y api.Pair) bool { return alike(x.Key, y.Key) && alike(x.Val, y.Val) })
	return rowsStay && bytes.Equal(a.room, a.roomWas)
}

// handed are objects and commands, for each way that a call goes.
func handed() []*asked {
	long, far := b(strings.Repeat("v", 16)), b(strings.Repeat("v", 17))
	few, full := of("a", letters(3), []int{3, 0, 9}, pairs(3)...), of(string(long), letters(8), people(5), pairs(8)...)
	var l []*asked
	for _, s := range []api.Objects{{}, few, full, of("b0", letters(1), people(1), pairs(1)...), of(string(far), letters(9), people(6), pairs(9)...)} {
		for kind := range 13 {
			l = append(l, ask(s, api.Cmd{Kind: kind}), ask(s, api.Cmd{Kind: kind, Who: 3, Key: b("b0"), Val: b("new"), Old: s.Reg}), ask(s, api.Cmd{Kind: kind, Who: 1, Key: b("c"), Val: long, Old: b("x")}), ask(s, api.Cmd{Kind: kind, Who: 1000, Key: far, Val: far, Old: s.Reg}))
		}
	}
	return l
}

// lists are all lists of bytes that are answered.
func lists(s api.Objects, r api.Result) [][]byte {
	l := append([][]byte{r.Val, s.Reg}, s.Queue...)
	for _, p := range s.Map {
		l = append(l, p.Key, p.Val)
	}
	return l
}

// texts are l's lists as texts.
func texts(l [][]byte) []string {
	var out []string
	for _, x := range l {
		out = append(out, string(x))
	}
	return out
}

// 8.1, rule 3: what is handed in stays, and so does the room behind it; of that room nothing is told.
func TestHandedInStays(t *testing.T) {
	for i, a := range handed() {
		next, r := objs.Apply(a.s, a.c)
		objs.Ok(a.c)
		objs.Same(a.s, next)
		objs.Same(next, a.s)
		objs.SameResult(r, api.Result{Val: a.c.Val})
		if !a.stays() {
			t.Errorf("%d: %s: what is handed in was changed", i, toldCmd(a.c))
		}
		if got, want := gone(next, r), gone(byLayers(a.s, a.c)); got != want {
			t.Errorf("%d: %s: %s, not %s", i, toldCmd(a.c), got, want)
		}
	}
}

// 8.1, rule 3: what is done to an answered list of bytes, and to the room behind it, is not seen in what was handed in, nor in another list of the answer.
func TestAnswersAreNew(t *testing.T) {
	for n, a := range handed() {
		for i := range lists(objs.Apply(a.s, a.c)) {
			l := lists(objs.Apply(a.s, a.c))
			was := texts(l)
			room := l[i][:cap(l[i])]
			for k := range room {
				room[k] ^= 0xff
			}
			if !a.stays() {
				t.Fatalf("%d: %s: list %d is what was handed in", n, toldCmd(a.c), i)
			}
			for k := range l {
				if k != i && string(l[k]) != was[k] {
					t.Errorf("%d: %s: list %d is list %d", n, toldCmd(a.c), i, k)
				}
			}
		}
	}
}

// 8.1, rule 3: what is laid into an answered queue, lock or map, and into the room behind it, is not seen in what was handed in; that room holds nothing of what was handed in.
func TestRowsAreNew(t *testing.T) {
	scribble := func(x []byte) {
		room := x[:cap(x)]
		for k := range room {
			room[k] ^= 0xff
		}
	}
	for n, a := range handed() {
		next, _ := objs.Apply(a.s, a.c)
		queue, row, pairs := next.Queue[:cap(next.Queue)], next.Lock[:cap(next.Lock)], next.Map[:cap(next.Map)]
		for i, x := range queue {
			scribble(x)
			queue[i] = b("laid in")
		}
		for i := range row {
			row[i] = -7
		}
		for i, p := range pairs {
			scribble(p.Key)
			scribble(p.Val)
			pairs[i] = api.Pair{Key: b("laid"), Val: b("in")}
		}
		if !a.stays() {
			t.Errorf("%d: %s: a row is what was handed in", n, toldCmd(a.c))
		}
	}
}

// 8.1, rule 3: what is done later to what was handed in is not seen in an answer.
func TestNothingIsKept(t *testing.T) {
	for n, a := range handed() {
		next, r := objs.Apply(a.s, a.c)
		was := gone(next, r)
		clear(a.room)
		clear(a.s.Queue[:cap(a.s.Queue)])
		clear(a.s.Lock[:cap(a.s.Lock)])
		clear(a.s.Map[:cap(a.s.Map)])
		if got := gone(next, r); got != was {
			t.Errorf("%d: %s: %s, then %s", n, toldCmd(a.c), was, got)
		}
	}
}

// 8.1, rule 3: one list may stand in each place that is handed in; what is answered is none the less apart.
func TestOneListInEachPlace(t *testing.T) {
	for _, size := range []int{1, 8, 9, 16, 17} {
		x := bytes.Repeat([]byte("x"), size)
		for kind := range 13 {
			s := api.Objects{Reg: x, Queue: [][]byte{x, x}, Lock: []int{1}, Map: []api.Pair{{Key: x, Val: x}}}
			c := api.Cmd{Kind: kind, Who: 1, Key: x, Val: x, Old: x}
			want := gone(byLayers(s, c))
			next, r := objs.Apply(s, c)
			if got := gone(next, r); got != want {
				t.Errorf("Kind %d of %d bytes: %s, not %s", kind, size, got, want)
			}
			l := lists(next, r)
			for i := range l {
				rest := texts(l[i+1:])
				clear(l[i])
				if !slices.Equal(texts(l[i+1:]), rest) {
					t.Errorf("Kind %d of %d bytes: list %d is one behind it", kind, size, i)
				}
			}
			if string(x) != strings.Repeat("x", size) {
				t.Fatalf("Kind %d of %d bytes: what is handed in was changed", kind, size)
			}
		}
	}
}

// model is the four objects by Go's own means, of commands from the empty ones on.
type model struct {
	reg   string
	queue []string
	row   []int
	under map[string]string
}

// do does c, and answers its result: the sentences of promises 4.1, 5.1, 6.1 and 7.1.
func (m *model) do(c api.Cmd) api.Result {
	key, val, old := string(c.Key), string(c.Val), string(c.Old)
	switch c.Kind {
	case read, write, cas:
		return m.register(c.Kind, old, val)
	case push, pop:
		return m.line(c.Kind, val)
	case take, free, owner:
		return m.locked(c.Kind, c.Who)
	case put, get, del:
		return m.mapped(c.Kind, key, val)
	}
	return api.Result{Err: 7}
}

func (m *model) register(kind int, old, val string) api.Result {
	switch {
	case kind == read:
		return api.Result{Val: b(m.reg)}
	case len(val) > 16:
		return api.Result{Err: 1}
	case kind == cas && m.reg != old:
		return api.Result{Err: 2, Val: b(m.reg)}
	}
	m.reg = val
	return api.Result{}
}

func (m *model) line(kind int, val string) api.Result {
	switch {
	case kind == push && len(val) > 16:
		return api.Result{Err: 1}
	case kind == push && len(m.queue) >= 8:
		return api.Result{Err: 3}
	case kind == push:
		m.queue = append(m.queue, val)
		return api.Result{N: len(m.queue)}
	case len(m.queue) == 0:
		return api.Result{Err: 4}
	}
	first := m.queue[0]
	m.queue = m.queue[1:]
	return api.Result{Val: b(first)}
}

func (m *model) locked(kind, who int) api.Result {
	at := slices.Index(m.row, who)
	switch {
	case kind == owner && len(m.row) == 0:
		return api.Result{Err: 5}
	case kind == owner:
		return api.Result{N: m.row[0]}
	case who < 0 || who > mostWho:
		return api.Result{Err: 7}
	case kind == take && at >= 0:
		return api.Result{Err: 6}
	case kind == take && len(m.row) >= 5:
		return api.Result{Err: 3}
	case kind == take:
		m.row = append(m.row, who)
		return api.Result{N: len(m.row) - 1}
	case at < 0:
		return api.Result{Err: 5}
	}
	m.row = slices.Delete(m.row, at, at+1)
	if len(m.row) == 0 {
		return api.Result{N: -1}
	}
	return api.Result{N: m.row[0]}
}

func (m *model) mapped(kind int, key, val string) api.Result {
	was, there := m.under[key]
	switch {
	case kind == put && (len(key) > 8 || len(val) > 16):
		return api.Result{Err: 1}
	case kind == put && !there && len(m.under) >= 8:
		return api.Result{Err: 3}
	case kind == put:
		m.under[key] = val
		return api.Result{Val: b(was), N: len(m.under)}
	case !there:
		return api.Result{Err: 5}
	case kind == del:
		delete(m.under, key)
	}
	return api.Result{Val: b(was)}
}

// objects are what the model holds.
func (m *model) objects() api.Objects {
	var l []pair
	for _, k := range slices.Sorted(maps.Keys(m.under)) {
		l = append(l, pair{k, m.under[k]})
	}
	return of(m.reg, m.queue, m.row, l...)
}

// start are objects and the model of these, once all of l was done to each.
func start(l []api.Cmd) (api.Objects, *model) {
	var s api.Objects
	m := &model{under: map[string]string{}}
	for _, c := range l {
		s, _ = objs.Apply(s, c)
		m.do(c)
	}
	return s, m
}

// fill are commands behind which queue, lock and map have one place left each.
func fill() []api.Cmd {
	var l []api.Cmd
	for i := range 7 {
		l = append(l, api.Cmd{Kind: push, Val: fmt.Append(nil, i)}, api.Cmd{Kind: put, Key: fmt.Append(nil, i), Val: b("v")})
	}
	for i := range 4 {
		l = append(l, api.Cmd{Kind: take, Who: 10 + i})
	}
	return l
}

// 8.2, W1: each order of a few commands is that of one state: each is answered by what those ahead of it left, and by nothing else, and leaves one state.
func TestOneOrder(t *testing.T) {
	far := b(strings.Repeat("v", 17))
	l := []api.Cmd{
		{}, {Kind: read}, {Kind: write, Val: b("a")}, {Kind: write, Val: far}, {Kind: cas, Old: b("a"), Val: b("b")}, {Kind: cas, Val: b("c")},
		{Kind: push, Val: b("a")}, {Kind: push, Val: b("b")}, {Kind: push, Val: far}, {Kind: pop},
		{Kind: take, Who: 1}, {Kind: take, Who: 2}, {Kind: take, Who: 1000}, {Kind: free, Who: 1}, {Kind: free, Who: 10}, {Kind: owner},
		{Kind: put, Key: b("a"), Val: b("1")}, {Kind: put, Key: b("a"), Val: b("2")}, {Kind: put, Key: b("b"), Val: b("3")}, {Kind: put, Key: b("c"), Val: far}, {Kind: get, Key: b("a")}, {Kind: del, Key: b("a")}, {Kind: del, Key: b("3")},
	}
	for _, ahead := range [][]api.Cmd{nil, {{Kind: write, Val: b("a")}, {Kind: push, Val: b("z")}, {Kind: take, Who: 2}, {Kind: put, Key: b("b"), Val: b("0")}}, fill()} {
		for n := range len(l) * len(l) * len(l) {
			s, m := start(ahead)
			// The digits of n say which three commands are asked; each is asked, those of digit 0 too.
			for at, k := 0, n; at < 3; at, k = at+1, k/len(l) {
				next, r := objs.Apply(s, l[k%len(l)])
				want := m.do(l[k%len(l)])
				if gone(next, r) != gone(m.objects(), want) {
					t.Fatalf("order %d, the one at %d, of %s: %s, not %s", n, at, told(s), gone(next, r), gone(m.objects(), want))
				}
				s = next
			}
		}
	}
}

// 8.2, W1: however many commands are asked, they are answered as by one state, and leave it.
func TestOneState(t *testing.T) {
	for seed := range 60 {
		s, m := start(nil)
		x := uint32(seed)*2654435761 + 1
		word := func(most uint32) []byte {
			x = x*1664525 + 1013904223
			return bytes.Repeat([]byte{byte('a' + x>>28)}, int(x>>16%most))
		}
		for n := range 1500 {
			x = x*1664525 + 1013904223
			c := api.Cmd{Kind: int(x >> 16 % 13), Who: int(x>>8%9)*143 - 1, Key: word(2 + uint32(seed)%9), Val: word(18), Old: word(4)}
			if seed%3 == 0 {
				// Few pops, frees and deletes: what has a bound comes to it.
				c.Kind = []int{push, take, put, put, get, cas, pop, read, take, push, write, owner, del}[c.Kind]
			}
			was := told(s)
			next, r := objs.Apply(s, c)
			want := m.do(c)
			if gone(next, r) != gone(m.objects(), want) {
				t.Fatalf("%d, act %d: %s, of %s: %s, not %s", seed, n, toldCmd(c), was, gone(next, r), gone(m.objects(), want))
			}
			if r.Err != api.OK && !objs.Same(next, s) || told(s) != was {
				t.Fatalf("%d, act %d: %s: %s, then %s, and %s", seed, n, toldCmd(c), was, told(s), told(next))
			}
			s = next
		}
	}
}

// 8.2: objects as they were may be gone on from anew: two that go on from one do not meet.
func TestTwoFromOne(t *testing.T) {
	one, _ := start(fill()[:10])
	was := told(one)
	for _, c := range commands() {
		left, r := objs.Apply(one, c)
		then := gone(left, r)
		for _, d := range []api.Cmd{{Kind: write, Val: b("l")}, {Kind: push, Val: b("l")}, {Kind: pop}, {Kind: take, Who: 5}, {Kind: free, Who: 5}, {Kind: put, Key: b("0"), Val: b("l")}, {Kind: put, Key: b("00"), Val: b("l")}, {Kind: del, Key: b("1")}} {
			objs.Apply(one, d)
			further, _ := objs.Apply(left, d)
			objs.Apply(further, d)
			if told(one) != was || gone(left, r) != then {
				t.Fatalf("%s, then %s: %s, and %s", toldCmd(c), toldCmd(d), told(one), gone(left, r))
			}
		}
	}
}

// 8.2, rule 6: the same commands are answered the same, whatever was asked ahead of them.
func TestSameAgain(t *testing.T) {
	s := of("a", letters(2), people(2), pairs(2)...)
	known := []api.Cmd{{Kind: read}, {Kind: pop}, {Kind: owner}, {Kind: get, Key: b("b1")}, {Kind: take, Who: 7}, {Kind: put, Key: b("b"), Val: b("x")}}
	var want []string
	for _, c := range known {
		want = append(want, gone(byLayers(s, c)))
	}
	for _, x := range states() {
		for _, c := range commands() {
			objs.Apply(x, c)
			objs.Ok(c)
		}
		for i, c := range known {
			if got := gone(objs.Apply(s, c)); got != want[i] {
				t.Fatalf("after %s: %s: %s, not %s", told(x), toldCmd(c), got, want[i])
			}
		}
	}
}

// 8.3: no call panics of lists that are nil, or of any length, nor of any number.
func TestNoPanic(t *testing.T) {
	huge := bytes.Repeat([]byte("z"), 1<<16)
	many := api.Objects{Reg: huge, Queue: make([][]byte, 1<<12), Lock: make([]int, 1<<12), Map: make([]api.Pair, 1<<12)}
	all := []api.Objects{{}, many, {Queue: [][]byte{nil, huge}}, {Lock: []int{math.MinInt, math.MaxInt}}, {Map: []api.Pair{{}, {Key: huge}, {Val: huge}}}}
	for _, s := range all {
		for _, kind := range []int{math.MinInt, -1, 0, 1, 2, 3, 4, 5, 6, 7, 8, 9, 10, 11, 12, math.MaxInt} {
			for _, who := range []int{math.MinInt, -1, 0, 999, 1000, math.MaxInt} {
				for _, x := range [][]byte{nil, huge} {
					c := api.Cmd{Kind: kind, Who: who, Key: x, Val: x, Old: x}
					next, r := objs.Apply(s, c)
					objs.Ok(c)
					if !objs.Same(next, next) || !objs.SameResult(r, r) || r.Err != api.OK && !objs.Same(next, s) {
						t.Errorf("Kind %d, Who %d, %d bytes", kind, who, len(x))
					}
				}
			}
		}
		for _, x := range all {
			objs.Same(s, x)
		}
	}
}

// 8.1 to 8.3: whatever the bytes are, no call panics, and all end and answer as the promises say: each four bytes are a command, its kind, who, and the lengths and letters of its lists.
func FuzzObjects(f *testing.F) {
	f.Add([]byte(nil), false)
	f.Add([]byte{2, 0, 0x11, 0x22, 1, 0, 0, 0, 3, 0, 0x21, 0x12}, false)
	f.Add([]byte{4, 0, 0x51, 0, 5, 0, 0, 0, 6, 1, 0, 0, 8, 0, 0, 0, 7, 1, 0, 0}, true)
	f.Add([]byte{9, 0, 0x31, 0x15, 10, 0, 0x31, 0, 11, 0, 0x31, 0, 12, 255, 255, 255}, true)
	f.Fuzz(func(t *testing.T, acts []byte, filled bool) {
		s, m := start(nil)
		if filled {
			s, m = start(fill())
		}
		// A hundred commands fill and empty all four; more of them would but take longer.
		for i := 0; i+3 < min(len(acts), 400); i += 4 {
			x, y := acts[i+2], acts[i+3]
			list := func(x byte) []byte { return bytes.Repeat([]byte{'a' + x%4}, int(x>>4)*5/2) }
			c := api.Cmd{Kind: int(acts[i]) % 16, Who: int(acts[i+1])*4 - 3, Key: list(x), Val: list(y), Old: list(x ^ y)}
			was := told(s)
			next, r := objs.Apply(s, c)
			if got, want := gone(next, r), gone(byLayers(s, c)); got != want {
				t.Fatalf("%s, of %s: %s, not %s", toldCmd(c), was, got, want)
			}
			if got, want := toldResult(r)+told(next), toldResult(m.do(c))+told(m.objects()); got != want {
				t.Fatalf("%s, of %s: %s, not %s", toldCmd(c), was, got, want)
			}
			if told(s) != was || objs.Same(s, next) != (was == told(next)) {
				t.Fatalf("%s: %s, then %s and %s", toldCmd(c), was, told(s), told(next))
			}
			s = next
		}
	})
}
