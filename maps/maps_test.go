package maps_test

import (
	"bytes"
	"fmt"
	"slices"
	"strings"
	"testing"

	"hocket/api"
	"hocket/maps"
)

// longestKey and longest are how many bytes a key and a value have at most, and most how many keys may be put into one map.
const (
	longestKey = 8
	longest    = 16
	most       = 8
)

// pair is a key with its value, as texts.
type pair struct{ key, val string }

// answer is what a call answers, by texts; Get's row is the one that was handed in.
type answer struct {
	row []pair
	err api.Errno
	val string
	n   int
}

// String tells an answer.
func (a answer) String() string {
	return fmt.Sprintf("row %q, error %d, Val %q, N %d", a.row, a.err, a.val, a.n)
}

// same tells if a is b, in all that is answered.
func (a answer) same(b answer) bool {
	return slices.Equal(a.row, b.row) && a.err == b.err && a.val == b.val && a.n == b.n
}

// row is l as a map, each key and each value in memory of its own.
func row(l []pair) []api.Pair {
	var s []api.Pair
	for _, p := range l {
		s = append(s, api.Pair{Key: []byte(p.key), Val: []byte(p.val)})
	}
	return s
}

// texts is s as texts.
func texts(s []api.Pair) []pair {
	var l []pair
	for _, p := range s {
		l = append(l, pair{string(p.Key), string(p.Val)})
	}
	return l
}

// gone is what a call answered.
func gone(s []api.Pair, r api.Result) answer {
	return answer{texts(s), r.Err, string(r.Val), r.N}
}

// put, get and del are the calls, on texts.
func put(l []pair, k, v string) answer {
	return gone(maps.Put(row(l), []byte(k), []byte(v)))
}

func get(l []pair, k string) answer {
	s := row(l)
	r := maps.Get(s, []byte(k))
	return gone(s, r)
}

func del(l []pair, k string) answer {
	return gone(maps.Del(row(l), []byte(k)))
}

// under tells what stands under k in l, and if anything does.
func under(l []pair, k string) (string, bool) {
	i := slices.IndexFunc(l, func(p pair) bool { return p.key == k })
	if i < 0 {
		return "", false
	}
	return l[i].val, true
}

// rising is l by keys as bytes: Go's texts are ordered so.
func rising(l []pair) []pair {
	l = slices.Clone(l)
	slices.SortFunc(l, func(a, b pair) int { return strings.Compare(a.key, b.key) })
	return l
}

// lacking is l without k.
func lacking(l []pair, k string) []pair {
	return slices.DeleteFunc(slices.Clone(l), func(p pair) bool { return p.key == k })
}

// putBySentence, getBySentence and delBySentence are the calls, word by word of promise 7.1, on a row that is a map.
func putBySentence(l []pair, k, v string) answer {
	was, there := under(l, k)
	switch {
	case len(k) > longestKey || len(v) > longest:
		return answer{row: l, err: 1}
	case !there && len(l) >= most:
		return answer{row: l, err: 3}
	}
	next := rising(append(lacking(l, k), pair{k, v}))
	return answer{row: next, val: was, n: len(next)}
}

func getBySentence(l []pair, k string) answer {
	was, there := under(l, k)
	if !there {
		return answer{row: l, err: 5}
	}
	return answer{row: l, val: was}
}

func delBySentence(l []pair, k string) answer {
	was, there := under(l, k)
	if !there {
		return answer{row: l, err: 5}
	}
	return answer{row: lacking(l, k), val: was}
}

// keys are texts that may be taken one for another, or lie at a bound.
func keys() []string {
	l := []string{"", "\x00", "\x00\x00", "\x01", "a", "A", "b", "a\x00", "\x00a", "ab", "ba", "a ", "z", "10", "9", "\x7f", "\x80", "\xff", "\xff\xff", "\xfe\xff", "\u00e9", "e\u0301", "\xef\xbf\xbd"}
	for _, n := range []int{7, 8, 9, 16, 17, 255, 256, 264} {
		x := strings.Repeat("k", n)
		l = append(l, x, x[1:]+"l", "j"+x[1:])
	}
	return l
}

// values are texts at a bound, and of bytes that are no runes.
func values() []string {
	l := []string{"", "\x00", "a", "\xff\x80"}
	for _, n := range []int{8, 9, 15, 16, 17, 32, 256, 272} {
		l = append(l, strings.Repeat("v", n))
	}
	return l
}

// letters are n pairs whose keys rise, each with a value of its own.
func letters(n int) []pair {
	var l []pair
	for i := range n {
		l = append(l, pair{fmt.Sprintf("b%03d", i), fmt.Sprint("v", i)})
	}
	return l
}

// rows are maps of each length about the bound, of all keys about that, and of keys and values that no call would have let in.
func rows() [][]pair {
	var l [][]pair
	for n := range 12 {
		l = append(l, letters(n))
		far := letters(n)
		for i := range far {
			far[i].key += strings.Repeat("k", 9)
			far[i].val = strings.Repeat("v", 20)
		}
		l = append(l, far)
	}
	l = append(l, letters(64), letters(300))
	for i, k := range keys() {
		v := fmt.Sprint("of ", i)
		l = append(l, []pair{{k, v}}, []pair{{k, ""}}, rising([]pair{{k, v}, {"az", "1"}, {"ka", "2"}}), rising(append(letters(most-1), pair{k, v})))
	}
	all := slices.Compact(slices.Sorted(slices.Values(keys())))
	for i := range all {
		var part []pair
		for _, k := range all[i:min(i+most, len(all))] {
			part = append(part, pair{k, "at " + k[:min(len(k), 3)]})
		}
		l = append(l, part)
	}
	return l
}

// 7.1: the errors' numbers, and the bounds.
func TestNumbers(t *testing.T) {
	if api.ErrLong != 1 || api.ErrFull != 3 || api.ErrNone != 5 || api.MaxKey != longestKey || api.MaxVal != longest || api.MaxMap != most {
		t.Error(api.ErrLong, api.ErrFull, api.ErrNone, api.MaxKey, api.MaxVal, api.MaxMap)
	}
}

// 7.1: answers of Put that are known.
func TestKnownPut(t *testing.T) {
	key, farKey, val, farVal := "01234567", "012345678", "0123456789abcdef", "0123456789abcdefg"
	ab, seven, eight, nine := []pair{{"a", "1"}, {"b", "2"}}, letters(7), letters(8), letters(9)
	for i, x := range []struct{ got, want answer }{
		{put(nil, "a", "1"), answer{[]pair{{"a", "1"}}, api.OK, "", 1}},
		{put(nil, "", ""), answer{[]pair{{"", ""}}, api.OK, "", 1}},
		{put([]pair{{"", ""}}, "", "1"), answer{[]pair{{"", "1"}}, api.OK, "", 1}},
		{put([]pair{{"", "1"}}, "", ""), answer{[]pair{{"", ""}}, api.OK, "1", 1}},
		{put([]pair{{"b", "2"}}, "a", "1"), answer{ab, api.OK, "", 2}},
		{put([]pair{{"a", "1"}}, "b", "2"), answer{ab, api.OK, "", 2}},
		{put(ab, "a", "3"), answer{[]pair{{"a", "3"}, {"b", "2"}}, api.OK, "1", 2}},
		{put(ab, "b", "3"), answer{[]pair{{"a", "1"}, {"b", "3"}}, api.OK, "2", 2}},
		{put(ab, "b", "2"), answer{ab, api.OK, "2", 2}},
		{put(ab, "", "3"), answer{[]pair{{"", "3"}, {"a", "1"}, {"b", "2"}}, api.OK, "", 3}},
		{put(ab, "aa", "3"), answer{[]pair{{"a", "1"}, {"aa", "3"}, {"b", "2"}}, api.OK, "", 3}},
		{put(ab, "\xff", "3"), answer{[]pair{{"a", "1"}, {"b", "2"}, {"\xff", "3"}}, api.OK, "", 3}},
		{put(ab, "B", "3"), answer{[]pair{{"B", "3"}, {"a", "1"}, {"b", "2"}}, api.OK, "", 3}},
		{put(nil, key, val), answer{[]pair{{key, val}}, api.OK, "", 1}},
		{put(nil, farKey, ""), answer{nil, api.ErrLong, "", 0}},
		{put(nil, "", farVal), answer{nil, api.ErrLong, "", 0}},
		{put(nil, farKey, farVal), answer{nil, api.ErrLong, "", 0}},
		{put(ab, "a", farVal), answer{ab, api.ErrLong, "", 0}},
		{put(ab, farKey, "3"), answer{ab, api.ErrLong, "", 0}},
		{put([]pair{{farKey, "1"}}, farKey, "2"), answer{[]pair{{farKey, "1"}}, api.ErrLong, "", 0}},
		{put([]pair{{"a", farVal}}, "a", "2"), answer{[]pair{{"a", "2"}}, api.OK, farVal, 1}},
		{put(seven, "a", "1"), answer{append([]pair{{"a", "1"}}, seven...), api.OK, "", 8}},
		{put(seven, "b", farVal), answer{seven, api.ErrLong, "", 0}},
		{put(eight, "a", "1"), answer{eight, api.ErrFull, "", 0}},
		{put(eight, "", ""), answer{eight, api.ErrFull, "", 0}},
		{put(eight, key, val), answer{eight, api.ErrFull, "", 0}},
		{put(eight, farKey, ""), answer{eight, api.ErrLong, "", 0}},
		{put(eight, "a", farVal), answer{eight, api.ErrLong, "", 0}},
		{put(eight, "b000", "1"), answer{append([]pair{{"b000", "1"}}, eight[1:]...), api.OK, "v0", 8}},
		{put(eight, "b000", farVal), answer{eight, api.ErrLong, "", 0}},
		{put(nine, "a", "1"), answer{nine, api.ErrFull, "", 0}},
		{put(nine, "b008", "1"), answer{append(letters(8), pair{"b008", "1"}), api.OK, "v8", 9}},
		{put(nine, farKey, "1"), answer{nine, api.ErrLong, "", 0}},
	} {
		if !x.got.same(x.want) {
			t.Errorf("%d: %v, not %v", i, x.got, x.want)
		}
	}
}

// 7.1: answers of Get and Del that are known.
func TestKnownGetDel(t *testing.T) {
	farKey, farVal := "012345678", "0123456789abcdefg"
	abc, eight, nine := []pair{{"a", "1"}, {"b", "2"}, {"c", "3"}}, letters(8), letters(9)
	for i, x := range []struct{ got, want answer }{
		{get(nil, "a"), answer{nil, api.ErrNone, "", 0}},
		{get(nil, ""), answer{nil, api.ErrNone, "", 0}},
		{get([]pair{{"", "1"}}, ""), answer{[]pair{{"", "1"}}, api.OK, "1", 0}},
		{get([]pair{{"", "1"}}, "\x00"), answer{[]pair{{"", "1"}}, api.ErrNone, "", 0}},
		{get([]pair{{"a", ""}}, "a"), answer{[]pair{{"a", ""}}, api.OK, "", 0}},
		{get([]pair{{"a", ""}}, ""), answer{[]pair{{"a", ""}}, api.ErrNone, "", 0}},
		{get(abc, "a"), answer{abc, api.OK, "1", 0}},
		{get(abc, "b"), answer{abc, api.OK, "2", 0}},
		{get(abc, "c"), answer{abc, api.OK, "3", 0}},
		{get(abc, "ab"), answer{abc, api.ErrNone, "", 0}},
		{get(abc, "A"), answer{abc, api.ErrNone, "", 0}},
		{get(abc, "1"), answer{abc, api.ErrNone, "", 0}},
		{get(abc, farKey), answer{abc, api.ErrNone, "", 0}},
		{get([]pair{{farKey, farVal}}, farKey), answer{[]pair{{farKey, farVal}}, api.OK, farVal, 0}},
		{get(nine, "b008"), answer{nine, api.OK, "v8", 0}},
		{del(nil, "a"), answer{nil, api.ErrNone, "", 0}},
		{del(nil, ""), answer{nil, api.ErrNone, "", 0}},
		{del([]pair{{"", "1"}}, ""), answer{nil, api.OK, "1", 0}},
		{del([]pair{{"a", ""}}, "a"), answer{nil, api.OK, "", 0}},
		{del([]pair{{"a", ""}}, ""), answer{[]pair{{"a", ""}}, api.ErrNone, "", 0}},
		{del(abc, "a"), answer{abc[1:], api.OK, "1", 0}},
		{del(abc, "b"), answer{[]pair{{"a", "1"}, {"c", "3"}}, api.OK, "2", 0}},
		{del(abc, "c"), answer{abc[:2], api.OK, "3", 0}},
		{del(abc, "ab"), answer{abc, api.ErrNone, "", 0}},
		{del(abc, farKey), answer{abc, api.ErrNone, "", 0}},
		{del([]pair{{farKey, farVal}}, farKey), answer{nil, api.OK, farVal, 0}},
		{del(eight, "b003"), answer{append(letters(3), eight[4:]...), api.OK, "v3", 0}},
		{del(nine, "b008"), answer{eight, api.OK, "v8", 0}},
	} {
		if !x.got.same(x.want) {
			t.Errorf("%d: %v, not %v", i, x.got, x.want)
		}
	}
}

// 7.1: whatever the map, the key and the value are, the calls answer what their sentences say.
func TestBySentence(t *testing.T) {
	for _, l := range rows() {
		for _, k := range append(keys(), "b000", "b003", "b007", "b008", "b0035") {
			if got, want := get(l, k), getBySentence(l, k); !got.same(want) {
				t.Errorf("Get(%q, %q): %v, not %v", l, k, got, want)
			}
			if got, want := del(l, k), delBySentence(l, k); !got.same(want) {
				t.Errorf("Del(%q, %q): %v, not %v", l, k, got, want)
			}
			for _, v := range values() {
				if got, want := put(l, k, v), putBySentence(l, k, v); !got.same(want) {
					t.Errorf("Put(%q, %q, %q): %v, not %v", l, k, v, got, want)
				}
			}
		}
	}
}

// 7.1: a key of 8 bytes and a value of 16 are put, of 9 and of 17 are not, and of nothing but these two does the length count.
func TestEachLength(t *testing.T) {
	for n := range 40 {
		k := strings.Repeat("\xff", n)
		for m := range 40 {
			v := strings.Repeat("\xfe", m)
			for _, l := range [][]pair{nil, {{"a", "1"}}, {{k, v}}, letters(7), letters(8), append(letters(7), pair{k, v})} {
				l = rising(l)
				if got, want := put(l, k, v), putBySentence(l, k, v); !got.same(want) {
					t.Errorf("Put(%q, %d bytes, %d bytes): %v, not %v", l, n, m, got, want)
				}
				if got, want := del(l, k), delBySentence(l, k); !got.same(want) {
					t.Errorf("Del(%q, %d bytes): %v, not %v", l, n, got, want)
				}
			}
		}
	}
}

// 7.1: the eighth key is taken, the ninth is not, one that is in it is put at any count, and a place that became free is taken anew.
func TestEachCount(t *testing.T) {
	for n := range 40 {
		l := letters(n)
		for _, k := range []string{"", "b0005", "z"} {
			got := put(l, k, "new")
			if n < most && (got.err != api.OK || got.n != n+1 || len(got.row) != n+1) {
				t.Errorf("%d, and %q: %v", n, k, got)
			}
			if n >= most && !got.same(answer{row: l, err: api.ErrFull}) {
				t.Errorf("%d are full: %v", n, got)
			}
		}
		for i, p := range l {
			want := answer{row: slices.Clone(l), val: p.val, n: n}
			want.row[i].val = "new"
			if got := put(l, p.key, "new"); !got.same(want) {
				t.Errorf("%d, and %q again: %v", n, p.key, got)
			}
		}
	}
	s := row(letters(8))
	for i := range 20 {
		s, _ = maps.Del(s, s[i%most].Key)
		next, r := maps.Put(s, fmt.Appendf(nil, "%02d", 50-i), nil)
		if r.Err != api.OK || r.N != most {
			t.Fatalf("place %d: %v", i, gone(next, r))
		}
		s = next
		if _, r := maps.Put(s, []byte("zz"), nil); r.Err != api.ErrFull {
			t.Fatalf("behind place %d: %v", i, r)
		}
	}
}

// 7.1: whatever the order in which keys are put, the row rises by them, as bytes.
func TestEachPlace(t *testing.T) {
	want := []string{"", "\x00", "\x00\xff", "1", "10", "9", "A", "a", "a\x00", "ab", "b", "\x7f", "\x80", "\xc3\xa9", "\xff", "\xff\x00"}
	for from := range len(want) - most + 1 {
		part := want[from : from+most]
		// Steps that share no factor with the count go through all of it, each in another order.
		for _, step := range []int{1, 3, 5, 7} {
			for first := range most {
				var s []api.Pair
				for n := range most {
					k := part[(first+n*step)%most]
					next, r := maps.Put(s, []byte(k), []byte(k))
					if r.Err != api.OK || r.N != n+1 || len(r.Val) != 0 {
						t.Fatalf("%q into %q: %v", k, texts(s), r)
					}
					s = next
				}
				for i, p := range s {
					if string(p.Key) != part[i] || string(p.Val) != part[i] {
						t.Fatalf("of %q by %d from %d: %q", part, step, first, texts(s))
					}
				}
			}
		}
	}
}

// 7.1: a key that differs in one bit, or in one byte more or less, is another key.
func TestOneBitDiffers(t *testing.T) {
	was := "01234567"
	others := []string{}
	for i := range 8 * len(was) {
		b := []byte(was)
		b[i/8] ^= 1 << (i % 8)
		others = append(others, string(b))
	}
	for n := range was {
		others = append(others, was[:n], was[n+1:])
	}
	l := []pair{{was, "old"}}
	for _, k := range others {
		if got := get(l, k); got.err != api.ErrNone || got.val != "" {
			t.Errorf("Get of %q: %v", k, got)
		}
		if got := del(l, k); !got.same(answer{row: l, err: api.ErrNone}) {
			t.Errorf("Del of %q: %v", k, got)
		}
		if got := put(l, k, "new"); !got.same(answer{row: rising([]pair{{was, "old"}, {k, "new"}}), n: 2}) {
			t.Errorf("Put of %q: %v", k, got)
		}
	}
}

// 7.1, rule 1: nil is an empty list, as a map, as a key, as a value, and in a pair; a key of no bytes is a key still.
func TestNilIsEmpty(t *testing.T) {
	empty := make([]byte, 0, 8)
	for i, none := range [][]byte{nil, {}, empty} {
		for k, s := range [][]api.Pair{nil, {}, make([]api.Pair, 0, 8), row(letters(8))[:0]} {
			if r := maps.Get(s, none); !gone(nil, r).same(answer{err: api.ErrNone}) {
				t.Errorf("%d, %d: Get: %v", i, k, r)
			}
			if got := gone(maps.Del(s, none)); !got.same(answer{err: api.ErrNone}) {
				t.Errorf("%d, %d: Del: %v", i, k, got)
			}
			if got := gone(maps.Put(s, none, none)); !got.same(answer{row: []pair{{}}, n: 1}) {
				t.Errorf("%d, %d: Put: %v", i, k, got)
			}
		}
		for k, other := range [][]byte{nil, {}, empty} {
			s := []api.Pair{{Key: none, Val: none}, {Key: []byte("a"), Val: none}}
			if r := maps.Get(s, other); r.Err != api.OK || len(r.Val) != 0 {
				t.Errorf("%d, %d: Get of none: %v", i, k, r)
			}
			if got := gone(maps.Del(s, other)); !got.same(answer{row: []pair{{"a", ""}}}) {
				t.Errorf("%d, %d: Del of none: %v", i, k, got)
			}
			if got := gone(maps.Put(s, other, []byte("1"))); !got.same(answer{row: []pair{{"", "1"}, {"a", ""}}, n: 2}) {
				t.Errorf("%d, %d: Put of none: %v", i, k, got)
			}
		}
	}
}

// asked is a map, a key and a value that lie in one room, with spare room behind the map and behind each key and value.
type asked struct {
	s, was        []api.Pair
	room, roomWas []byte
	k, v          []byte
}

// ask lays l, k and v so; behind the map stand pairs of the same room.
func ask(l []pair, k, v string) *asked {
	a := &asked{room: bytes.Repeat([]byte{0x5a}, 64*(2*len(l)+8))}
	at := 0
	place := func(x string) []byte {
		at += 64
		return append(a.room[at-64:at-64:at], x...)
	}
	for _, p := range l {
		a.s = append(a.s, api.Pair{Key: place(p.key), Val: place(p.val)})
	}
	for range 3 {
		a.s = append(a.s, api.Pair{Key: place("spare"), Val: place("room")})
	}
	a.k, a.v = place(k), place(v)
	a.was, a.roomWas = slices.Clone(a.s), bytes.Clone(a.room)
	a.s = a.s[:len(l)]
	return a
}

// alike tells if x and y are the same bytes in the same place.
func alike(x, y []byte) bool {
	return len(x) == len(y) && cap(x) == cap(y) && &x[:1][0] == &y[:1][0]
}

// stays tells if all that was handed in is what it was, with the room behind it.
func (a *asked) stays() bool {
	all := a.s[:len(a.was)]
	for i, p := range all {
		// The place is held too: a row that is handed in is not to be filled with other lists of the same bytes.
		if !alike(p.Key, a.was[i].Key) || !alike(p.Val, a.was[i].Val) {
			return false
		}
	}
	return bytes.Equal(a.room, a.roomWas)
}

// calls answers the maps and the lists of bytes that each call answers of what a holds: all keys and values of it, and its result's.
func (a *asked) calls() (heads [][]api.Pair, lists [][]byte) {
	p, pr := maps.Put(a.s, a.k, a.v)
	d, dr := maps.Del(a.s, a.k)
	r := maps.Get(a.s, a.k)
	lists = append(lists, pr.Val, dr.Val, r.Val)
	for _, x := range append(slices.Clone(p), d...) {
		lists = append(lists, x.Key, x.Val)
	}
	return [][]api.Pair{p, d}, lists
}

// copies are l's lists as texts.
func copies(l [][]byte) []string {
	var out []string
	for _, x := range l {
		out = append(out, string(x))
	}
	return out
}

// handed are maps, keys and values, one for each way that a call goes.
func handed() []*asked {
	abc, far := []pair{{"a", "one"}, {"b", "two"}, {"c", "three"}}, strings.Repeat("v", 17)
	return []*asked{
		ask(nil, "abc", "def"), ask(nil, "", ""), ask(nil, "a", far), ask(nil, far, "a"),
		ask(abc, "", "new"), ask(abc, "a", "new"), ask(abc, "ab", "new"), ask(abc, "b", "two"), ask(abc, "c", ""), ask(abc, "d", "new"), ask(abc, "spare", "room"), ask(abc, "b", far), ask(abc, far, "b"),
		ask(letters(7), "a", "new"), ask(letters(7), "b006", "new"), ask(letters(8), "a", "new"), ask(letters(8), "b004", "new"), ask(letters(8), "b004", far), ask(letters(9), "z", "new"), ask(letters(9), "b008", "new"),
		ask([]pair{{"b", "two"}, {"a", "one"}, {"b", "three"}}, "b", "new"), ask([]pair{{far, far}}, far, far), ask([]pair{{"a", far}}, "a", "b"),
	}
}

// 7.1, rule 3: what is handed in stays, and so does the room behind it; of that room nothing is told.
func TestHandedInStays(t *testing.T) {
	for i, a := range handed() {
		heads, _ := a.calls()
		if !a.stays() {
			t.Errorf("%d: what is handed in was changed", i)
		}
		for _, s := range heads {
			if _, there := under(texts(s), "spare"); there && string(a.k) != "spare" {
				t.Errorf("%d: the room behind is told: %q", i, texts(s))
			}
		}
	}
}

// 7.1, rule 3: what is done to an answered list of bytes, and to the room behind it, is not seen in what was handed in, nor in another list of an answer.
func TestAnswersAreNew(t *testing.T) {
	for n := range handed() {
		_, l := handed()[n].calls()
		for i := range l {
			a := handed()[n]
			_, l := a.calls()
			was := copies(l)
			room := l[i][:cap(l[i])]
			for k := range room {
				room[k] ^= 0xff
			}
			if !a.stays() {
				t.Errorf("%d: answer %d is what was handed in", n, i)
			}
			for k := range l {
				if k != i && string(l[k]) != was[k] {
					t.Errorf("%d: answer %d is answer %d", n, i, k)
				}
			}
		}
	}
}

// 7.1, rule 3: what is laid into an answered map, and into the room behind it, is not seen in what was handed in, nor in another answer; that room holds nothing of what was handed in.
func TestMapsAreNew(t *testing.T) {
	for n := range handed() {
		for i := range 2 {
			a := handed()[n]
			heads, _ := a.calls()
			other := texts(heads[1-i])
			all := heads[i][:cap(heads[i])]
			for k, p := range all {
				for _, x := range [][]byte{p.Key, p.Val} {
					room := x[:cap(x)]
					for j := range room {
						room[j] ^= 0xff
					}
				}
				all[k] = api.Pair{Key: []byte("laid"), Val: []byte("in")}
			}
			if !a.stays() {
				t.Errorf("%d: map %d is what was handed in", n, i)
			}
			if !slices.Equal(texts(heads[1-i]), other) {
				t.Errorf("%d: map %d is the other", n, i)
			}
		}
	}
}

// 7.1, rule 3: what is done later to what was handed in is not seen in an answer.
func TestNothingIsKept(t *testing.T) {
	for i, a := range handed() {
		heads, l := a.calls()
		was, rows := copies(l), [][]pair{texts(heads[0]), texts(heads[1])}
		clear(a.room)
		clear(a.s[:cap(a.s)])
		if !slices.Equal(copies(l), was) {
			t.Errorf("%d: an answer was changed", i)
		}
		for k, r := range rows {
			if !slices.Equal(texts(heads[k]), r) {
				t.Errorf("%d: map %d was changed", i, k)
			}
		}
	}
}

// 7.1, rule 3: key and value may be the same list, that of a pair that is handed in too; what is answered is none the less apart.
func TestOneListInEachPlace(t *testing.T) {
	for _, size := range []int{1, 8, 9, 16, 17} {
		x := bytes.Repeat([]byte("x"), size)
		text := string(x)
		for _, there := range []bool{false, true} {
			s := []api.Pair{{Key: []byte("a"), Val: x}}
			if there {
				s = append(s, api.Pair{Key: x, Val: x})
			}
			was := texts(s)
			p, pr := maps.Put(s, x, x)
			d, dr := maps.Del(s, x)
			r := maps.Get(s, x)
			if got, want := gone(p, pr), putBySentence(was, text, text); !got.same(want) {
				t.Errorf("Put of %d bytes: %v, not %v", size, got, want)
			}
			if got, want := gone(d, dr), delBySentence(was, text); !got.same(want) {
				t.Errorf("Del of %d bytes: %v, not %v", size, got, want)
			}
			apart := [][]byte{pr.Val, dr.Val, r.Val}
			for _, y := range append(slices.Clone(p), d...) {
				apart = append(apart, y.Key, y.Val)
			}
			for i := range apart {
				rest := copies(apart[i+1:])
				clear(apart[i])
				if !slices.Equal(copies(apart[i+1:]), rest) {
					t.Errorf("of %d bytes: %d is one behind it", size, i)
				}
			}
			if !slices.Equal(texts(s), was) {
				t.Errorf("of %d bytes: what is handed in was changed", size)
			}
		}
	}
}

// act is a call: Put of v under k, or Get or Del of k.
type act struct{ kind, k, v string }

// do answers the map that the act leaves, what was answered, and what its sentence says.
func (a act) do(s []api.Pair) (next []api.Pair, got, want answer) {
	was := texts(s)
	switch a.kind {
	case "put":
		n, r := maps.Put(s, []byte(a.k), []byte(a.v))
		return n, gone(n, r), putBySentence(was, a.k, a.v)
	case "del":
		n, r := maps.Del(s, []byte(a.k))
		return n, gone(n, r), delBySentence(was, a.k)
	}
	r := maps.Get(s, []byte(a.k))
	return s, gone(s, r), getBySentence(was, a.k)
}

// 7.2, W1: each order of a few calls is that of one object: each answers by what those ahead of it left, and by nothing else.
func TestOneOrder(t *testing.T) {
	far := strings.Repeat("v", 17)
	l := []act{{"get", "a", ""}, {"get", "b", ""}, {"put", "a", "1"}, {"put", "a", "2"}, {"put", "b", "3"}, {"put", "", "4"}, {"put", "c", far}, {"del", "a", ""}, {"del", "b", ""}, {"del", "", ""}}
	for _, start := range [][]pair{nil, {{"b", "0"}}, {{"a", "0"}, {"c", "0"}}, letters(6), letters(7), letters(8), append([]pair{{"a", "0"}}, letters(7)...)} {
		for n := range len(l) * len(l) * len(l) * len(l) {
			s := row(start)
			// The digits of n say which four calls are made; each is made, those of digit 0 too.
			for at, k := 0, n; at < 4; at, k = at+1, k/len(l) {
				next, got, want := l[k%len(l)].do(s)
				if !got.same(want) {
					t.Fatalf("of %q calls %d, the one at %d: %v, not %v", start, n, at, got, want)
				}
				s = next
			}
		}
	}
}

// 7.2, W1: under each key stands what was put there last, until it is deleted, whatever is done under others; the row stays a map.
func TestLastPutStands(t *testing.T) {
	for seed := range 40 {
		var s []api.Pair
		stands := map[string]string{}
		x := uint32(seed)*2654435761 + 1
		for n := range 2000 {
			x = x*1664525 + 1013904223
			k, v := strings.Repeat(string(rune('a'+x>>16%5)), int(x>>24%uint32(1+seed%4))), fmt.Sprint(n)
			was, there := stands[k]
			if x>>30%2 == 0 {
				next, r := maps.Put(s, []byte(k), []byte(v))
				if let := there || len(stands) < most; let != (r.Err == api.OK) {
					t.Fatalf("%d, act %d: %q stand, then %q: %v", seed, n, stands, k, r)
				}
				if r.Err == api.OK {
					stands[k] = v
				}
				if r.Err == api.OK && (string(r.Val) != was || r.N != len(stands)) {
					t.Fatalf("%d, act %d: %q was %q: %v", seed, n, k, was, r)
				}
				s = next
			} else {
				next, r := maps.Del(s, []byte(k))
				if there != (r.Err == api.OK) || string(r.Val) != was {
					t.Fatalf("%d, act %d: %q was %q: %v", seed, n, k, was, r)
				}
				delete(stands, k)
				s = next
			}
			if len(s) != len(stands) {
				t.Fatalf("%d, act %d: %q, not %q", seed, n, texts(s), stands)
			}
			for i, p := range s {
				if v, there := stands[string(p.Key)]; !there || v != string(p.Val) || i > 0 && bytes.Compare(s[i-1].Key, p.Key) >= 0 {
					t.Fatalf("%d, act %d: %q, not %q", seed, n, texts(s), stands)
				}
			}
		}
	}
}

// 7.2: a map as it was may be gone on from anew: two that go on from one do not meet.
func TestTwoFromOne(t *testing.T) {
	one, _ := maps.Put(row([]pair{{"b", "0"}}), []byte("c"), []byte("1"))
	left, _ := maps.Put(one, []byte("d"), []byte("l"))
	right, _ := maps.Put(one, []byte("d"), []byte("r"))
	over, _ := maps.Put(left, []byte("b"), []byte("o"))
	rest, _ := maps.Del(left, []byte("b"))
	again, _ := maps.Put(rest, []byte("a"), []byte("x"))
	same, _ := maps.Del(again, []byte("z"))
	more, _ := maps.Put(same, []byte("e"), []byte("y"))
	for i, x := range []struct {
		got  []api.Pair
		want []pair
	}{
		{one, []pair{{"b", "0"}, {"c", "1"}}},
		{left, []pair{{"b", "0"}, {"c", "1"}, {"d", "l"}}},
		{right, []pair{{"b", "0"}, {"c", "1"}, {"d", "r"}}},
		{over, []pair{{"b", "o"}, {"c", "1"}, {"d", "l"}}},
		{rest, []pair{{"c", "1"}, {"d", "l"}}},
		{again, []pair{{"a", "x"}, {"c", "1"}, {"d", "l"}}},
		{same, []pair{{"a", "x"}, {"c", "1"}, {"d", "l"}}},
		{more, []pair{{"a", "x"}, {"c", "1"}, {"d", "l"}, {"e", "y"}}},
	} {
		if !slices.Equal(texts(x.got), x.want) {
			t.Errorf("%d: %q, not %q", i, texts(x.got), x.want)
		}
	}
}

// 7.2, rule 6: the same calls answer the same, whatever was asked ahead of them.
func TestSameAgain(t *testing.T) {
	known := []pair{{"a", "1"}, {"c", "3"}}
	for _, l := range rows() {
		for _, k := range keys() {
			put(l, k, "v")
			get(l, k)
			del(l, k)
			if got := put(known, "b", "2"); !got.same(answer{[]pair{{"a", "1"}, {"b", "2"}, {"c", "3"}}, api.OK, "", 3}) {
				t.Fatalf("after %q, %q: %v", l, k, got)
			}
			if got := get(known, "c"); !got.same(answer{known, api.OK, "3", 0}) {
				t.Fatalf("after %q, %q: %v", l, k, got)
			}
			if got := del(known, "a"); !got.same(answer{known[1:], api.OK, "1", 0}) {
				t.Fatalf("after %q, %q: %v", l, k, got)
			}
		}
	}
}

// noMaps are rows that no call would have made: they do not rise, or have a key twice.
func noMaps() [][]pair {
	falling := letters(9)
	slices.Reverse(falling)
	return [][]pair{
		{{"b", "1"}, {"a", "2"}}, {{"a", "1"}, {"a", "2"}}, {{"", "1"}, {"", ""}}, {{"b", "1"}, {"a", "2"}, {"b", "3"}}, {{"a", "1"}, {"c", "2"}, {"b", "3"}},
		falling, falling[:8], falling[:7], slices.Repeat([]pair{{"a", "1"}}, 8), slices.Repeat([]pair{{"a", "1"}, {"b", "2"}}, 7),
	}
}

// 7.1, 7.3: of a row that is no map too, what is put is what Get then tells, what is deleted is not in it, and with an error the row stays.
func TestNoMap(t *testing.T) {
	for _, l := range noMaps() {
		for _, k := range append(keys(), "c", "b003", "b008") {
			_, there := under(l, k)
			got := put(l, k, "new")
			if let := len(k) <= longestKey && (there || len(l) < most); let != (got.err == api.OK) {
				t.Errorf("Put(%q, %q): %v", l, k, got)
			}
			if got.err != api.OK && !slices.Equal(got.row, l) {
				t.Errorf("Put(%q, %q): %v", l, k, got)
			}
			if got.err == api.OK && (get(got.row, k).val != "new" || got.n != len(got.row) || got.val != get(l, k).val) {
				t.Errorf("Put(%q, %q): %v", l, k, got)
			}
			if there != (get(l, k).err == api.OK) {
				t.Errorf("Get(%q, %q): %v", l, k, get(l, k))
			}
			if got := del(l, k); got.err != get(l, k).err || got.val != get(l, k).val || !slices.Equal(got.row, lacking(l, k)) {
				t.Errorf("Del(%q, %q): %v", l, k, got)
			}
		}
	}
}

// 7.3: no call panics of lists that are nil, or of any length.
func TestNoPanic(t *testing.T) {
	huge := bytes.Repeat([]byte("z"), 1<<20)
	for _, s := range [][]api.Pair{nil, {}, {{}}, {{Key: huge, Val: huge}}, {{}, {Key: huge}, {Val: huge}}, make([]api.Pair, 8), make([]api.Pair, 9), make([]api.Pair, 1<<16)} {
		for _, k := range [][]byte{nil, {}, []byte("a"), huge} {
			maps.Get(s, k)
			maps.Del(s, k)
			for _, v := range [][]byte{nil, {}, huge} {
				_, r := maps.Put(s, k, v)
				if far := len(k) > longestKey || len(v) > longest; far != (r.Err == api.ErrLong) {
					t.Errorf("Put of %d, %d bytes, %d bytes: %d", len(s), len(k), len(v), r.Err)
				}
			}
		}
	}
}

// 7.1, 7.3: whatever the bytes are, no call panics, and all end and answer as the promises say: each two bytes are an act, its kind and key by the first, the length of its value by the second.
func FuzzMap(f *testing.F) {
	f.Add([]byte(nil), uint8(0))
	f.Add([]byte{0, 1, 3, 2, 6, 3, 1, 0, 2, 0}, uint8(0))
	f.Add([]byte{0, 16, 0, 17, 255, 9, 3, 4, 1, 0, 4, 0}, uint8(7))
	f.Add([]byte{30, 1, 33, 1, 31, 1, 30, 2}, uint8(8))
	f.Fuzz(func(t *testing.T, acts []byte, start uint8) {
		s := row(letters(int(start)))
		for i := 0; i+1 < len(acts); i += 2 {
			b := acts[i]
			a := act{[]string{"put", "get", "del"}[b%3], fmt.Sprint(strings.Repeat("k", int(b)/60*4), b/3%20), strings.Repeat("v", int(acts[i+1]))}
			was := texts(s)
			next, got, want := a.do(s)
			if !got.same(want) {
				t.Fatalf("act %d on %q: %v, not %v", i, was, got, want)
			}
			if !slices.Equal(texts(s), was) {
				t.Fatalf("act %d changed %q", i, was)
			}
			s = next
		}
	})
}
