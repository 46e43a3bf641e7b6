package regs_test

import (
	"bytes"
	"fmt"
	"strings"
	"testing"

	"hocket/api"
	"hocket/regs"
)

// longest is how many bytes a value has at most.
const longest = 16

// answer is what a call answers, by texts.
type answer struct {
	reg string
	err api.Errno
	val string
	n   int
}

// String tells an answer.
func (a answer) String() string {
	return fmt.Sprintf("register %q, error %d, Val %q, N %d", a.reg, a.err, a.val, a.n)
}

// gone is what a call answered.
func gone(s []byte, r api.Result) answer {
	return answer{string(s), r.Err, string(r.Val), r.N}
}

// read, write and cas are the calls, on texts; the register that read leaves is what was handed in.
func read(s string) answer {
	b := []byte(s)
	r := regs.Read(b)
	return gone(b, r)
}

func write(s, v string) answer {
	return gone(regs.Write([]byte(s), []byte(v)))
}

func cas(s, old, v string) answer {
	return gone(regs.Cas([]byte(s), []byte(old), []byte(v)))
}

// readBySentence, writeBySentence and casBySentence are the calls, word by word of promise 4.1.
func readBySentence(s string) answer {
	return answer{reg: s, val: s}
}

func writeBySentence(s, v string) answer {
	if len(v) > longest {
		return answer{reg: s, err: 1}
	}
	return answer{reg: v}
}

func casBySentence(s, old, v string) answer {
	switch {
	case len(v) > longest:
		return answer{reg: s, err: 1}
	case s == old:
		return answer{reg: v}
	}
	return answer{reg: s, err: 2, val: s}
}

// values are texts that may be taken one for another, or lie at a bound.
func values() []string {
	l := []string{"", "\x00", "\x00\x00", "a", "A", "b", "a\x00", "\x00a", "ab", "ba", "a ", "\x7f", "\x80", "\xff", "\xfe\xff", "\u00e9", "e\u0301", "\xef\xbf\xbd"}
	for _, n := range []int{15, 16, 17, 18, 32, 33, 255, 256, 300} {
		x := strings.Repeat("x", n)
		l = append(l, x, x[1:]+"y", "y"+x[1:])
	}
	return l
}

// 4.1: the errors' numbers, and the bound.
func TestNumbers(t *testing.T) {
	if api.ErrLong != 1 || api.ErrDiffers != 2 || api.MaxVal != longest {
		t.Error(api.ErrLong, api.ErrDiffers, api.MaxVal)
	}
}

// 4.1: answers that are known.
func TestKnown(t *testing.T) {
	full, far := "0123456789abcdef", "0123456789abcdefg"
	for i, x := range []struct{ got, want answer }{
		{read(""), answer{}},
		{read("abc"), answer{"abc", api.OK, "abc", 0}},
		{read(far), answer{far, api.OK, far, 0}},
		{write("a", "b"), answer{"b", api.OK, "", 0}},
		{write("", "b"), answer{"b", api.OK, "", 0}},
		{write("a", ""), answer{"", api.OK, "", 0}},
		{write("a", "a"), answer{"a", api.OK, "", 0}},
		{write("a", full), answer{full, api.OK, "", 0}},
		{write("a", far), answer{"a", api.ErrLong, "", 0}},
		{write(far, "a"), answer{"a", api.OK, "", 0}},
		{write(far, far), answer{far, api.ErrLong, "", 0}},
		{cas("a", "a", "b"), answer{"b", api.OK, "", 0}},
		{cas("a", "b", "c"), answer{"a", api.ErrDiffers, "a", 0}},
		{cas("a", "", "c"), answer{"a", api.ErrDiffers, "a", 0}},
		{cas("", "a", "c"), answer{"", api.ErrDiffers, "", 0}},
		{cas("", "", "c"), answer{"c", api.OK, "", 0}},
		{cas("a", "a", ""), answer{"", api.OK, "", 0}},
		{cas("a", "a", "a"), answer{"a", api.OK, "", 0}},
		{cas("a", "b", "a"), answer{"a", api.ErrDiffers, "a", 0}},
		{cas("a", "a", full), answer{full, api.OK, "", 0}},
		{cas("a", "a", far), answer{"a", api.ErrLong, "", 0}},
		{cas("a", "b", far), answer{"a", api.ErrLong, "", 0}},
		{cas(far, far, "a"), answer{"a", api.OK, "", 0}},
		{cas(far, full, "a"), answer{far, api.ErrDiffers, far, 0}},
		{cas(far, "a", far), answer{far, api.ErrLong, "", 0}},
	} {
		if x.got != x.want {
			t.Errorf("%d: %v, not %v", i, x.got, x.want)
		}
	}
}

// 4.1: whatever the register, the old one and the new one are, the calls answer what their sentences say.
func TestBySentence(t *testing.T) {
	for _, s := range values() {
		if got, want := read(s), readBySentence(s); got != want {
			t.Errorf("Read(%q): %v, not %v", s, got, want)
		}
		for _, v := range values() {
			if got, want := write(s, v), writeBySentence(s, v); got != want {
				t.Errorf("Write(%q, %q): %v, not %v", s, v, got, want)
			}
			for _, old := range values() {
				if got, want := cas(s, old, v), casBySentence(s, old, v); got != want {
					t.Errorf("Cas(%q, %q, %q): %v, not %v", s, old, v, got, want)
				}
			}
		}
	}
}

// 4.1: 16 bytes are written, 17 are not, and of nothing but v does the length count.
func TestEachLength(t *testing.T) {
	for n := range 80 {
		x := strings.Repeat("\xff", n)
		for _, s := range []string{"", "a", x} {
			if got, want := write(s, x), writeBySentence(s, x); got != want {
				t.Errorf("Write(%q, %d bytes): %v", s, n, got)
			}
			for _, old := range []string{"", "a", x} {
				if got, want := cas(s, old, x), casBySentence(s, old, x); got != want {
					t.Errorf("Cas(%q, %q, %d bytes): %v", s, old, n, got)
				}
				if got, want := cas(s, old, "b"), casBySentence(s, old, "b"); got != want {
					t.Errorf("Cas(%q, %q, b): %v", s, old, got)
				}
			}
		}
	}
}

// 4.1: a register that differs from old in one bit, or in one byte more or less, is not old.
func TestOneBitDiffers(t *testing.T) {
	was := []byte("0123456789abcdef")
	for i := range 8 * len(was) {
		old := bytes.Clone(was)
		old[i/8] ^= 1 << (i % 8)
		if got := cas(string(was), string(old), "b"); got.err != api.ErrDiffers || got.reg != string(was) {
			t.Errorf("bit %d: %v", i, got)
		}
	}
	for n := range was {
		for _, old := range []string{string(was[:n]), string(was[n+1:])} {
			if got := cas(string(was), old, "b"); got.err != api.ErrDiffers || got.val != string(was) {
				t.Errorf("%q: %v", old, got)
			}
			if got := cas(old, string(was), "b"); got.err != api.ErrDiffers || got.val != old {
				t.Errorf("of %q: %v", old, got)
			}
		}
	}
}

// 4.1, rule 1: nil is an empty list, in each place.
func TestNilIsEmpty(t *testing.T) {
	for i := range 8 {
		pick := func(bit int) []byte {
			if i>>bit&1 == 1 {
				return make([]byte, 0, 8)
			}
			return nil
		}
		s, old, v := pick(0), pick(1), pick(2)
		if got := regs.Read(s); got.Err != api.OK || len(got.Val) != 0 || got.N != 0 {
			t.Error(i, got)
		}
		if got := gone(regs.Write(s, v)); got != (answer{}) {
			t.Errorf("%d: Write: %v", i, got)
		}
		if got := gone(regs.Cas(s, old, v)); got != (answer{}) {
			t.Errorf("%d: Cas: %v", i, got)
		}
		if got := gone(regs.Cas([]byte("a"), old, v)); got != (answer{"a", api.ErrDiffers, "a", 0}) {
			t.Errorf("%d: Cas of a: %v", i, got)
		}
		if got := gone(regs.Cas(s, []byte("a"), v)); got != (answer{"", api.ErrDiffers, "", 0}) {
			t.Errorf("%d: Cas by a: %v", i, got)
		}
	}
}

// asked is a call on lists that lie in a room of their own, all of which is kept to see what becomes of it.
type asked struct {
	room, was []byte
	s, old, v []byte
}

// ask lays s, old and v into one room, with spare room behind each.
func ask(s, old, v string) *asked {
	a := &asked{room: bytes.Repeat([]byte{0x5a}, 600)}
	a.s = append(a.room[0:0:200], s...)
	a.old = append(a.room[200:200:400], old...)
	a.v = append(a.room[400:400:600], v...)
	a.was = bytes.Clone(a.room)
	return a
}

// calls answer the lists of each call's answer, of what a holds.
func (a *asked) calls() [][]byte {
	r := regs.Read(a.s)
	w, wr := regs.Write(a.s, a.v)
	c, cr := regs.Cas(a.s, a.old, a.v)
	return [][]byte{r.Val, w, wr.Val, c, cr.Val}
}

// copies answer each of l anew.
func copies(l [][]byte) [][]byte {
	out := make([][]byte, len(l))
	for i, x := range l {
		out[i] = bytes.Clone(x)
	}
	return out
}

// 4.1, rule 3: what is handed in stays, and so does the room behind it.
func TestHandedInStays(t *testing.T) {
	for _, x := range [][3]string{{"a", "a", "b"}, {"a", "b", "c"}, {"abc", "abc", ""}, {"", "", "abc"}, {"abc", "a", strings.Repeat("v", 17)}, {strings.Repeat("s", 100), "", "c"}} {
		a := ask(x[0], x[1], x[2])
		a.calls()
		if !bytes.Equal(a.room, a.was) {
			t.Errorf("%q: what is handed in was changed", x)
		}
	}
}

// 4.1, rule 3: what is done to an answer, and to the room behind it, is not seen in what was handed in, nor in another answer.
func TestAnswersAreNew(t *testing.T) {
	for _, x := range [][3]string{{"abc", "abc", "def"}, {"abc", "d", "def"}, {"abc", "abc", strings.Repeat("v", 17)}, {"", "", "def"}, {"abc", "abc", ""}, {strings.Repeat("s", 100), "d", "def"}} {
		for i := range 5 {
			a := ask(x[0], x[1], x[2])
			l := a.calls()
			was := copies(l)
			room := l[i][:cap(l[i])]
			for k := range room {
				room[k] ^= 0xff
			}
			if !bytes.Equal(a.room, a.was) {
				t.Errorf("%q: answer %d is what was handed in", x, i)
			}
			for k := range l {
				if k != i && !bytes.Equal(l[k], was[k]) {
					t.Errorf("%q: answer %d is answer %d", x, i, k)
				}
			}
		}
	}
}

// 4.1, rule 3: what is done later to what was handed in is not seen in an answer.
func TestNothingIsKept(t *testing.T) {
	for _, x := range [][3]string{{"abc", "abc", "def"}, {"abc", "d", "def"}, {"abc", "abc", strings.Repeat("v", 17)}} {
		a := ask(x[0], x[1], x[2])
		l := a.calls()
		was := copies(l)
		clear(a.room)
		for k := range l {
			if !bytes.Equal(l[k], was[k]) {
				t.Errorf("%q: answer %d was changed", x, k)
			}
		}
	}
}

// 4.1, rule 3: all that is handed in may be the same list.
func TestOneListInEachPlace(t *testing.T) {
	for _, n := range []int{0, 1, 16, 17} {
		x := bytes.Repeat([]byte("x"), n)
		text := string(x)
		w, wr := regs.Write(x, x)
		c, cr := regs.Cas(x, x, x)
		if got, want := gone(w, wr), writeBySentence(text, text); got != want {
			t.Errorf("Write of %d: %v", n, got)
		}
		if got, want := gone(c, cr), casBySentence(text, text, text); got != want {
			t.Errorf("Cas of %d: %v", n, got)
		}
		clear(w)
		clear(c)
		if string(x) != text {
			t.Errorf("of %d: what is handed in was changed", n)
		}
	}
}

// acts are all calls by some values: each is handed a register, and answers what it is then, what the call answered, and what its sentence says.
func acts() []func([]byte) ([]byte, answer, answer) {
	var l []func([]byte) ([]byte, answer, answer)
	l = append(l, func(s []byte) ([]byte, answer, answer) {
		return s, gone(s, regs.Read(s)), readBySentence(string(s))
	})
	few := []string{"", "a", "b", strings.Repeat("c", 17)}
	for _, v := range few {
		l = append(l, func(s []byte) ([]byte, answer, answer) {
			n, r := regs.Write(s, []byte(v))
			return n, gone(n, r), writeBySentence(string(s), v)
		})
		for _, old := range few {
			l = append(l, func(s []byte) ([]byte, answer, answer) {
				n, r := regs.Cas(s, []byte(old), []byte(v))
				return n, gone(n, r), casBySentence(string(s), old, v)
			})
		}
	}
	return l
}

// 4.2, W1: each order of a few calls is that of one object: each answers by what those ahead of it left, and by nothing else.
func TestOneOrder(t *testing.T) {
	l := acts()
	for _, start := range []string{"", "a", "b"} {
		for i := range l {
			for j := range l {
				for k := range l {
					s := []byte(start)
					for at, n := range []int{i, j, k} {
						next, got, want := l[n](s)
						if got != want {
							t.Fatalf("of %q calls %d %d %d, the one at %d: %v, not %v", start, i, j, k, at, got, want)
						}
						s = next
					}
				}
			}
		}
	}
}

// 4.2, W1: a read tells what was written last, whatever was refused in between.
func TestReadIsTheLastWrite(t *testing.T) {
	var s []byte
	last := ""
	for n := range 2000 {
		v := strings.Repeat(string(rune('a'+n%26)), n*7%24)
		old := last
		if n%3 == 0 {
			old += "x"
		}
		var r api.Result
		if n%2 == 0 {
			s, r = regs.Write(s, []byte(v))
		} else {
			s, r = regs.Cas(s, []byte(old), []byte(v))
		}
		if r.Err == api.OK {
			last = v
		}
		if got := regs.Read(s); string(got.Val) != last {
			t.Fatalf("after %d: %q, not %q", n, got.Val, last)
		}
	}
}

// 4.2, W1: of several who take the register for the same one is first, and each other is told by which it was.
func TestOneOfSeveral(t *testing.T) {
	names := []string{"p", "q", "r", "s"}
	for first := range names {
		s := []byte("free")
		for k := range names {
			me := names[(first+k)%len(names)]
			next, r := regs.Cas(s, []byte("free"), []byte(me))
			if k == 0 && (r.Err != api.OK || string(next) != me) {
				t.Errorf("%s is first: %v", me, r)
			}
			if k > 0 && (r.Err != api.ErrDiffers || string(r.Val) != names[first] || string(next) != names[first]) {
				t.Errorf("%s is not first: %q %v", me, next, r)
			}
			s = next
		}
	}
}

// 4.2, rule 6: the same calls answer the same, whatever was asked ahead of them.
func TestSameAgain(t *testing.T) {
	want := cas("a", "b", "c")
	for _, s := range values() {
		cas(s, s, "b")
		write("a", s)
		if got := cas("a", "b", "c"); got != want {
			t.Errorf("after %q: %v, not %v", s, got, want)
		}
	}
}

// 4.3: no call panics of lists that are nil, or of any length.
func TestNoPanic(t *testing.T) {
	huge := bytes.Repeat([]byte("z"), 1<<20)
	for _, s := range [][]byte{nil, {}, huge} {
		if r := regs.Read(s); !bytes.Equal(r.Val, s) {
			t.Errorf("Read of %d bytes", len(s))
		}
		for _, v := range [][]byte{nil, {}, huge} {
			if got, want := gone(regs.Write(s, v)), writeBySentence(string(s), string(v)); got != want {
				t.Errorf("Write of %d, %d bytes: %d", len(s), len(v), got.err)
			}
			for _, old := range [][]byte{nil, {}, huge, huge[1:]} {
				if got, want := gone(regs.Cas(s, old, v)), casBySentence(string(s), string(old), string(v)); got != want {
					t.Errorf("Cas of %d, %d, %d bytes: %d", len(s), len(old), len(v), got.err)
				}
			}
		}
	}
}

// 4.1, 4.3: whatever the bytes are, no call panics, and all end and answer as the promises say.
func FuzzRegister(f *testing.F) {
	f.Add([]byte(nil), []byte(nil), []byte(nil))
	f.Add([]byte("a"), []byte("b"), []byte("c"))
	f.Add([]byte("a"), []byte("a"), []byte("0123456789abcdef"))
	f.Add([]byte("a"), []byte("b"), []byte("0123456789abcdefg"))
	f.Fuzz(func(t *testing.T, s, old, v []byte) {
		a := &asked{s: s, old: old, v: v}
		was := copies([][]byte{s, old, v})
		if got, want := gone(s, regs.Read(s)), readBySentence(string(s)); got != want {
			t.Errorf("Read: %v, not %v", got, want)
		}
		if got, want := gone(regs.Write(s, v)), writeBySentence(string(s), string(v)); got != want {
			t.Errorf("Write: %v, not %v", got, want)
		}
		for _, o := range [][]byte{old, s} {
			if got, want := gone(regs.Cas(s, o, v)), casBySentence(string(s), string(o), string(v)); got != want {
				t.Errorf("Cas: %v, not %v", got, want)
			}
		}
		for _, l := range a.calls() {
			clear(l[:cap(l)])
		}
		for i, x := range [][]byte{s, old, v} {
			if !bytes.Equal(x, was[i]) {
				t.Errorf("what is handed in at %d was changed", i)
			}
		}
	})
}
