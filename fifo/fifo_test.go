package fifo_test

import (
	"bytes"
	"fmt"
	"slices"
	"strings"
	"testing"

	"hocket/api"
	"hocket/fifo"
)

// longest is how many bytes a value has at most, and most how many values may be pushed into one queue.
const (
	longest = 16
	most    = 8
)

// answer is what a call answers, by texts; a queue is its values one by one.
type answer struct {
	queue []string
	err   api.Errno
	val   string
	n     int
}

// String tells an answer.
func (a answer) String() string {
	return fmt.Sprintf("queue %q, error %d, Val %q, N %d", a.queue, a.err, a.val, a.n)
}

// same tells if a is b, in all that is answered.
func (a answer) same(b answer) bool {
	return slices.Equal(a.queue, b.queue) && a.err == b.err && a.val == b.val && a.n == b.n
}

// queue is l as a queue, each value in memory of its own.
func queue(l []string) [][]byte {
	var s [][]byte
	for _, v := range l {
		s = append(s, []byte(v))
	}
	return s
}

// texts is s as texts.
func texts(s [][]byte) []string {
	var l []string
	for _, v := range s {
		l = append(l, string(v))
	}
	return l
}

// gone is what a call answered.
func gone(s [][]byte, r api.Result) answer {
	return answer{texts(s), r.Err, string(r.Val), r.N}
}

// push and pop are the calls, on texts.
func push(l []string, v string) answer {
	return gone(fifo.Push(queue(l), []byte(v)))
}

func pop(l []string) answer {
	return gone(fifo.Pop(queue(l)))
}

// pushBySentence and popBySentence are the calls, word by word of promise 5.1.
func pushBySentence(l []string, v string) answer {
	switch {
	case len(v) > longest:
		return answer{queue: l, err: 1}
	case len(l) >= most:
		return answer{queue: l, err: 3}
	}
	return answer{queue: append(slices.Clone(l), v), n: len(l) + 1}
}

func popBySentence(l []string) answer {
	if len(l) == 0 {
		return answer{queue: l, err: 4}
	}
	return answer{queue: l[1:], val: l[0]}
}

// values are texts that may be taken one for another, or lie at a bound.
func values() []string {
	l := []string{"", "\x00", "a", "b", "a\x00", "ab", "\x80", "\xff", "\u00e9", "\xef\xbf\xbd"}
	for _, n := range []int{15, 16, 17, 18, 32, 33, 255, 256, 300} {
		l = append(l, strings.Repeat("x", n))
	}
	return l
}

// letters are the first n of the alphabet, one by one, and again from its beginning.
func letters(n int) []string {
	var l []string
	for i := range n {
		l = append(l, string(rune('a'+i%26)))
	}
	return l
}

// queues are queues of each length about the bound, of one value, of several, and of values that no call would have let in.
func queues() [][]string {
	var l [][]string
	for n := range 12 {
		l = append(l, letters(n), make([]string, n), slices.Repeat([]string{"same"}, n), slices.Repeat([]string{strings.Repeat("q", 17)}, n))
	}
	l = append(l, letters(64), letters(1000))
	for _, v := range values() {
		l = append(l, []string{v}, []string{"a", v}, []string{v, "b", v})
	}
	return l
}

// 5.1: the errors' numbers, and the bounds.
func TestNumbers(t *testing.T) {
	if api.ErrLong != 1 || api.ErrFull != 3 || api.ErrEmpty != 4 || api.MaxVal != longest || api.MaxQueue != most {
		t.Error(api.ErrLong, api.ErrFull, api.ErrEmpty, api.MaxVal, api.MaxQueue)
	}
}

// 5.1: answers that are known.
func TestKnown(t *testing.T) {
	full, far := "0123456789abcdef", "0123456789abcdefg"
	seven, eight, nine := letters(7), letters(8), letters(9)
	for i, x := range []struct{ got, want answer }{
		{push(nil, "a"), answer{[]string{"a"}, api.OK, "", 1}},
		{push(nil, ""), answer{[]string{""}, api.OK, "", 1}},
		{push([]string{""}, ""), answer{[]string{"", ""}, api.OK, "", 2}},
		{push([]string{"a"}, "b"), answer{[]string{"a", "b"}, api.OK, "", 2}},
		{push([]string{"b"}, "a"), answer{[]string{"b", "a"}, api.OK, "", 2}},
		{push([]string{"a"}, "a"), answer{[]string{"a", "a"}, api.OK, "", 2}},
		{push(nil, full), answer{[]string{full}, api.OK, "", 1}},
		{push(nil, far), answer{nil, api.ErrLong, "", 0}},
		{push([]string{"a"}, far), answer{[]string{"a"}, api.ErrLong, "", 0}},
		{push([]string{far}, "a"), answer{[]string{far, "a"}, api.OK, "", 2}},
		{push(seven, "h"), answer{eight, api.OK, "", 8}},
		{push(seven, far), answer{seven, api.ErrLong, "", 0}},
		{push(eight, "i"), answer{eight, api.ErrFull, "", 0}},
		{push(eight, ""), answer{eight, api.ErrFull, "", 0}},
		{push(eight, full), answer{eight, api.ErrFull, "", 0}},
		{push(eight, far), answer{eight, api.ErrLong, "", 0}},
		{push(nine, "j"), answer{nine, api.ErrFull, "", 0}},
		{push(nine, far), answer{nine, api.ErrLong, "", 0}},
		{pop(nil), answer{nil, api.ErrEmpty, "", 0}},
		{pop([]string{"a"}), answer{nil, api.OK, "a", 0}},
		{pop([]string{""}), answer{nil, api.OK, "", 0}},
		{pop([]string{"", "a"}), answer{[]string{"a"}, api.OK, "", 0}},
		{pop([]string{"a", "b"}), answer{[]string{"b"}, api.OK, "a", 0}},
		{pop([]string{"b", "a", "b"}), answer{[]string{"a", "b"}, api.OK, "b", 0}},
		{pop([]string{far, "a"}), answer{[]string{"a"}, api.OK, far, 0}},
		{pop(eight), answer{eight[1:], api.OK, "a", 0}},
		{pop(nine), answer{nine[1:], api.OK, "a", 0}},
	} {
		if !x.got.same(x.want) {
			t.Errorf("%d: %v, not %v", i, x.got, x.want)
		}
	}
}

// 5.1: whatever the queue and the value are, the calls answer what their sentences say.
func TestBySentence(t *testing.T) {
	for _, l := range queues() {
		if got, want := pop(l), popBySentence(l); !got.same(want) {
			t.Errorf("Pop(%q): %v, not %v", l, got, want)
		}
		for _, v := range values() {
			if got, want := push(l, v), pushBySentence(l, v); !got.same(want) {
				t.Errorf("Push(%q, %q): %v, not %v", l, v, got, want)
			}
		}
	}
}

// 5.1: 16 bytes are pushed, 17 are not, and of nothing but v does the length count.
func TestEachLength(t *testing.T) {
	for n := range 80 {
		x := strings.Repeat("\xff", n)
		for _, l := range [][]string{nil, {"a"}, {x}, letters(7), letters(8), slices.Repeat([]string{x}, 7), slices.Repeat([]string{x}, 8)} {
			for _, v := range []string{"", x} {
				if got, want := push(l, v), pushBySentence(l, v); !got.same(want) {
					t.Errorf("Push(%q, %d bytes): %v", l, len(v), got)
				}
			}
			if got, want := pop(l), popBySentence(l); !got.same(want) {
				t.Errorf("Pop(%q): %v", l, got)
			}
		}
	}
}

// 5.1: the eighth value is taken, the ninth is not, and a place that became free is taken anew.
func TestEachCount(t *testing.T) {
	for n := range 40 {
		s, r := fifo.Push(queue(letters(n)), []byte("z"))
		if n < most && (r.Err != api.OK || r.N != n+1 || len(s) != n+1) {
			t.Errorf("%d, and one more: %v", n, gone(s, r))
		}
		if n >= most && (r.Err != api.ErrFull || r.N != 0 || len(s) != n) {
			t.Errorf("%d are full: %v", n, gone(s, r))
		}
	}
	s := queue(letters(8))
	for i := range 20 {
		s, _ = fifo.Pop(s)
		next, r := fifo.Push(s, []byte("z"))
		if r.Err != api.OK || r.N != most {
			t.Fatalf("place %d: %v", i, gone(next, r))
		}
		s = next
		if _, r := fifo.Push(s, nil); r.Err != api.ErrFull {
			t.Fatalf("behind place %d: %v", i, r)
		}
	}
}

// 5.1, rule 1: nil is an empty list, as a queue, as a value, and as a value in a queue; a value of no bytes is a value still.
func TestNilIsEmpty(t *testing.T) {
	empty := make([]byte, 0, 8)
	for i, s := range [][][]byte{nil, {}, make([][]byte, 0, 8), queue(letters(8))[:0]} {
		if got := gone(fifo.Pop(s)); !got.same(answer{err: api.ErrEmpty}) {
			t.Errorf("%d: Pop: %v", i, got)
		}
		for _, v := range [][]byte{nil, {}, empty} {
			if got := gone(fifo.Push(s, v)); !got.same(answer{queue: []string{""}, n: 1}) {
				t.Errorf("%d: Push: %v", i, got)
			}
		}
		if got := gone(fifo.Push(s, make([]byte, 17))); !got.same(answer{err: api.ErrLong}) {
			t.Errorf("%d: Push of 17: %v", i, got)
		}
	}
	for i, v := range [][]byte{nil, {}, empty} {
		s := [][]byte{v, []byte("a"), v}
		if got := gone(fifo.Pop(s)); !got.same(answer{queue: []string{"a", ""}}) {
			t.Errorf("%d: Pop: %v", i, got)
		}
		if got := gone(fifo.Push(s, v)); !got.same(answer{queue: []string{"", "a", "", ""}, n: 4}) {
			t.Errorf("%d: Push: %v", i, got)
		}
	}
	if got := gone(fifo.Push(make([][]byte, most), nil)); got.err != api.ErrFull || len(got.queue) != most {
		t.Errorf("eight of no bytes: %v", got)
	}
}

// asked is a queue and a value that lie in one room, with spare room behind the queue and behind each value.
type asked struct {
	s, was        [][]byte
	room, roomWas []byte
	v             []byte
}

// ask lays l and v so; behind the queue stand values of the same room.
func ask(l []string, v string) *asked {
	a := &asked{room: bytes.Repeat([]byte{0x5a}, 64*(len(l)+4))}
	place := func(i int, x string) []byte {
		return append(a.room[64*i:64*i:64*(i+1)], x...)
	}
	for i, x := range l {
		a.s = append(a.s, place(i, x))
	}
	for i := range 3 {
		a.s = append(a.s, place(len(l)+i, "spare"))
	}
	a.v = place(len(l)+3, v)
	a.was, a.roomWas = slices.Clone(a.s), bytes.Clone(a.room)
	a.s = a.s[:len(l)]
	return a
}

// stays tells if all that was handed in is what it was, with the room behind it.
func (a *asked) stays() bool {
	all := a.s[:len(a.was)]
	for i, x := range all {
		// The place is held too: a list that is handed in is not to be filled with other values of the same bytes.
		if len(x) != len(a.was[i]) || cap(x) != cap(a.was[i]) || &x[:1][0] != &a.was[i][:1][0] {
			return false
		}
	}
	return bytes.Equal(a.room, a.roomWas)
}

// calls answers the queue and the lists of bytes that each call answers of what a holds: all values of it, and its result's.
func (a *asked) calls() (heads [][][]byte, lists [][]byte) {
	p, pr := fifo.Push(a.s, a.v)
	o, or := fifo.Pop(a.s)
	lists = append(lists, pr.Val, or.Val)
	lists = append(lists, p...)
	lists = append(lists, o...)
	return [][][]byte{p, o}, lists
}

// handed are queues and values, one for each way that a call goes.
func handed() []*asked {
	far := strings.Repeat("v", 17)
	return []*asked{
		ask(nil, "abc"), ask(nil, ""), ask(nil, far),
		ask([]string{"abc"}, "def"), ask([]string{"abc", "", "ghi"}, "def"), ask([]string{"", "abc"}, ""), ask([]string{"abc", "def"}, far),
		ask(letters(7), "h"), ask(letters(8), "i"), ask(letters(9), "j"), ask(letters(8), far), ask(slices.Repeat([]string{"same"}, 7), "same"),
		ask([]string{strings.Repeat("q", 40), strings.Repeat("r", 64)}, "s"),
	}
}

// 5.1, rule 3: what is handed in stays, and so does the room behind it.
func TestHandedInStays(t *testing.T) {
	for i, a := range handed() {
		a.calls()
		if !a.stays() {
			t.Errorf("%d: what is handed in was changed", i)
		}
	}
}

// 5.1, rule 3: what is done to an answered list of bytes, and to the room behind it, is not seen in what was handed in, nor in another list of an answer.
func TestAnswersAreNew(t *testing.T) {
	for n := range handed() {
		_, l := handed()[n].calls()
		for i := range l {
			a := handed()[n]
			_, l := a.calls()
			was := texts(l)
			room := l[i][:cap(l[i])]
			for k := range room {
				room[k] ^= 0xff
			}
			if !a.stays() {
				t.Errorf("%d: answer %d is what was handed in", n, i)
			}
			for k := range l {
				if k != i && string(l[k]) != was[k] {
					t.Errorf("%d: answer %d is answer %d", n, i, k)
				}
			}
		}
	}
}

// 5.1, rule 3: what is laid into an answered queue, and into the room behind it, is not seen in what was handed in, nor in another answer; that room holds nothing of what was handed in.
func TestQueuesAreNew(t *testing.T) {
	for n := range handed() {
		for i := range 2 {
			a := handed()[n]
			heads, _ := a.calls()
			other := texts(heads[1-i])
			all := heads[i][:cap(heads[i])]
			for k := range all {
				room := all[k][:cap(all[k])]
				for j := range room {
					room[j] ^= 0xff
				}
				all[k] = []byte("laid")
			}
			if !a.stays() {
				t.Errorf("%d: queue %d is what was handed in", n, i)
			}
			if !slices.Equal(texts(heads[1-i]), other) {
				t.Errorf("%d: queue %d is the other", n, i)
			}
		}
	}
}

// 5.1, rule 3: what is done later to what was handed in is not seen in an answer.
func TestNothingIsKept(t *testing.T) {
	for i, a := range handed() {
		heads, l := a.calls()
		was, queues := texts(l), [][]string{texts(heads[0]), texts(heads[1])}
		clear(a.room)
		clear(a.s[:cap(a.s)])
		if !slices.Equal(texts(l), was) {
			t.Errorf("%d: an answer was changed", i)
		}
		for k, q := range queues {
			if !slices.Equal(texts(heads[k]), q) {
				t.Errorf("%d: queue %d was changed", i, k)
			}
		}
	}
}

// 5.1, rule 3: all that is handed in may be the same list; what is answered is none the less apart.
func TestOneListInEachPlace(t *testing.T) {
	for _, n := range []int{1, 7, 8, 9} {
		for _, size := range []int{1, 16, 17} {
			x := bytes.Repeat([]byte("x"), size)
			text := string(x)
			l := slices.Repeat([]string{text}, n)
			s := slices.Repeat([][]byte{x}, n)
			p, pr := fifo.Push(s, x)
			o, or := fifo.Pop(s)
			if got, want := gone(p, pr), pushBySentence(l, text); !got.same(want) {
				t.Errorf("Push of %d, %d bytes: %v", n, size, got)
			}
			if got, want := gone(o, or), popBySentence(l); !got.same(want) {
				t.Errorf("Pop of %d, %d bytes: %v", n, size, got)
			}
			apart := append(slices.Clone(p), o...)
			apart = append(apart, or.Val)
			for i := range apart {
				clear(apart[i])
				for k := i + 1; k < len(apart); k++ {
					if string(apart[k]) != text {
						t.Fatalf("of %d, %d bytes: %d is %d", n, size, i, k)
					}
				}
			}
			if string(x) != text {
				t.Errorf("of %d, %d bytes: what is handed in was changed", n, size)
			}
		}
	}
}

// act is a call: an empty text is Pop, another is Push of what stands behind its first byte.
type act string

// do answers the queue that the act leaves, what was answered, and what its sentence says.
func (a act) do(s [][]byte) (next [][]byte, got, want answer) {
	was := texts(s)
	if a == "" {
		n, r := fifo.Pop(s)
		return n, gone(n, r), popBySentence(was)
	}
	n, r := fifo.Push(s, []byte(a[1:]))
	return n, gone(n, r), pushBySentence(was, string(a[1:]))
}

// 5.2, W1: each order of a few calls is that of one object: each answers by what those ahead of it left, and by nothing else.
func TestOneOrder(t *testing.T) {
	l := []act{"", "+", "+a", "+b", act("+" + strings.Repeat("c", 17))}
	for _, start := range [][]string{nil, {"a"}, {"b", "a"}, letters(6), letters(7), letters(8)} {
		for n := range len(l) * len(l) * len(l) * len(l) {
			s := queue(start)
			// The digits of n say which four calls are made; each is made, those of digit 0 too.
			for at, k := 0, n; at < 4; at, k = at+1, k/len(l) {
				next, got, want := l[k%len(l)].do(s)
				if !got.same(want) {
					t.Fatalf("of %q calls %d, the one at %d: %v, not %v", start, n, at, got, want)
				}
				s = next
			}
		}
	}
}

// 5.2: who comes first goes first, whatever comes and goes, and is refused, in between.
func TestFirstGoesFirst(t *testing.T) {
	for _, turns := range []int{1, 2, 3, 5, 7, 11} {
		var s [][]byte
		came, went := 0, 0
		for n := range 3000 {
			if n/turns%2 == 0 {
				next, r := fifo.Push(s, fmt.Appendf(nil, "%d", came))
				if full := came-went == most; full != (r.Err == api.ErrFull) {
					t.Fatalf("%d at once: %d are there, and %v", turns, came-went, r)
				}
				if r.Err == api.OK {
					came++
				}
				s = next
				continue
			}
			next, r := fifo.Pop(s)
			if none := came == went; none != (r.Err == api.ErrEmpty) {
				t.Fatalf("%d at once: %d are there, and %v", turns, came-went, r)
			}
			if r.Err == api.OK {
				if string(r.Val) != fmt.Sprint(went) {
					t.Fatalf("%d at once: %q went, not %d", turns, r.Val, went)
				}
				went++
			}
			s = next
		}
		if went == 0 || len(s) != came-went {
			t.Errorf("%d at once: %d came, %d went, %d are left", turns, came, went, len(s))
		}
	}
}

// 5.2: a queue as it was may be gone on from anew: two that go on from one do not meet.
func TestTwoFromOne(t *testing.T) {
	one, _ := fifo.Push(nil, []byte("a"))
	left, _ := fifo.Push(one, []byte("l"))
	right, _ := fifo.Push(one, []byte("r"))
	rest, _ := fifo.Pop(left)
	again, _ := fifo.Push(rest, []byte("x"))
	for i, x := range []struct {
		got  [][]byte
		want []string
	}{{one, []string{"a"}}, {left, []string{"a", "l"}}, {right, []string{"a", "r"}}, {rest, []string{"l"}}, {again, []string{"l", "x"}}} {
		if !slices.Equal(texts(x.got), x.want) {
			t.Errorf("%d: %q, not %q", i, x.got, x.want)
		}
	}
}

// 5.2, rule 6: the same calls answer the same, whatever was asked ahead of them.
func TestSameAgain(t *testing.T) {
	for _, l := range queues() {
		for _, v := range values() {
			push(l, v)
			pop(l)
			if got, want := push([]string{"a"}, "b"), (answer{[]string{"a", "b"}, api.OK, "", 2}); !got.same(want) {
				t.Fatalf("after %q, %q: %v, not %v", l, v, got, want)
			}
			if got, want := pop([]string{"a", "b"}), (answer{[]string{"b"}, api.OK, "a", 0}); !got.same(want) {
				t.Fatalf("after %q, %q: %v, not %v", l, v, got, want)
			}
		}
	}
}

// 5.3: no call panics of lists that are nil, or of any length.
func TestNoPanic(t *testing.T) {
	huge := bytes.Repeat([]byte("z"), 1<<20)
	for _, s := range [][][]byte{nil, {}, {nil}, {huge}, {nil, huge, {}}, make([][]byte, 8), make([][]byte, 9), make([][]byte, 1<<16)} {
		if got, want := gone(fifo.Pop(s)), popBySentence(texts(s)); !got.same(want) {
			t.Errorf("Pop of %d: %d", len(s), got.err)
		}
		for _, v := range [][]byte{nil, {}, huge} {
			if got, want := gone(fifo.Push(s, v)), pushBySentence(texts(s), string(v)); !got.same(want) {
				t.Errorf("Push of %d, %d bytes: %d", len(s), len(v), got.err)
			}
		}
	}
}

// 5.1, 5.3: whatever the bytes are, no call panics, and all end and answer as the promises say: each byte is an act, Pop of an even one, Push of as many bytes as half an odd one.
func FuzzQueue(f *testing.F) {
	f.Add([]byte(nil), uint8(0))
	f.Add([]byte{1, 3, 5, 0, 0, 0, 0}, uint8(0))
	f.Add([]byte{33, 35, 255, 0, 33, 35}, uint8(7))
	f.Add([]byte{3, 35, 0, 3, 3, 0}, uint8(9))
	f.Fuzz(func(t *testing.T, acts []byte, start uint8) {
		s := queue(letters(int(start)))
		for i, b := range acts {
			a := act("")
			if b%2 == 1 {
				a = act("+" + strings.Repeat(string(rune('a'+i%26)), int(b)/2))
			}
			was := texts(s)
			next, got, want := a.do(s)
			if !got.same(want) {
				t.Fatalf("act %d on %q: %v, not %v", i, was, got, want)
			}
			if !slices.Equal(texts(s), was) {
				t.Fatalf("act %d changed %q", i, was)
			}
			s = next
		}
	})
}
