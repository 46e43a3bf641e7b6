package pack_test

import (
	"bytes"
	"math"
	"testing"

	"hocket/pack"
)

// highest is the greatest number that is written.
const highest = 1 << 62

// some answers n bytes that look like no rule, the same ones each time.
func some(n int) []byte {
	b := make([]byte, n)
	x := uint32(2463534242)
	for i := range b {
		x ^= x << 13
		x ^= x >> 17
		x ^= x << 5
		b[i] = byte(x >> 8)
	}
	return b
}

// bySentence is what Num lays behind its bytes, word by word of promise 2.1: as many groups as the number's bits ask for.
func bySentence(n int) []byte {
	if n < 0 {
		n = 0
	}
	if n > highest {
		n = highest
	}
	groups := 1
	for n>>(7*groups) != 0 {
		groups++
	}
	b := make([]byte, groups)
	for i := range b {
		b[i] = byte(n>>(7*i)) & 127
		if i < groups-1 {
			b[i] |= 128
		}
	}
	return b
}

// corners are numbers at which a group, or a bound, may go wrong.
func corners() []int {
	l := []int{math.MinInt, -1 << 62, -128, -1, math.MaxInt, math.MaxInt - 1, 300}
	for i := range 63 {
		l = append(l, 1<<i-2, 1<<i-1, 1<<i, 1<<i+1, 3<<i>>1)
	}
	return l
}

// held is the nearest number from 0 to 2^62.
func held(n int) int {
	return min(max(n, 0), highest)
}

// failed tells of a reader that is Ok, or at its end, or reads on.
func failed(t *testing.T, r *pack.Reader, what string) {
	t.Helper()
	for range 3 {
		if r.Ok() || r.End() {
			t.Errorf("%s: Ok is %v, End is %v", what, r.Ok(), r.End())
		}
		if n := r.Num(math.MaxInt); n != 0 {
			t.Errorf("%s: reads on, %d", what, n)
		}
		if x := r.Bytes(math.MaxInt); len(x) != 0 {
			t.Errorf("%s: reads on, %x", what, x)
		}
	}
}

// 2.1: numbers that are known.
func TestNumKnown(t *testing.T) {
	for _, x := range []struct {
		n    int
		want []byte
	}{
		{0, []byte{0}},
		{1, []byte{1}},
		{127, []byte{0x7f}},
		{128, []byte{0x80, 1}},
		{255, []byte{0xff, 1}},
		{256, []byte{0x80, 2}},
		{300, []byte{0xac, 2}},
		{16383, []byte{0xff, 0x7f}},
		{16384, []byte{0x80, 0x80, 1}},
		{2097151, []byte{0xff, 0xff, 0x7f}},
		{2097152, []byte{0x80, 0x80, 0x80, 1}},
		{1<<31 - 1, []byte{0xff, 0xff, 0xff, 0xff, 7}},
		{1 << 56, []byte{0x80, 0x80, 0x80, 0x80, 0x80, 0x80, 0x80, 0x80, 1}},
		{highest - 1, []byte{0xff, 0xff, 0xff, 0xff, 0xff, 0xff, 0xff, 0xff, 0x3f}},
		{highest, []byte{0x80, 0x80, 0x80, 0x80, 0x80, 0x80, 0x80, 0x80, 0x40}},
		{highest + 1, []byte{0x80, 0x80, 0x80, 0x80, 0x80, 0x80, 0x80, 0x80, 0x40}},
		{math.MaxInt, []byte{0x80, 0x80, 0x80, 0x80, 0x80, 0x80, 0x80, 0x80, 0x40}},
		{-1, []byte{0}},
		{-300, []byte{0}},
		{math.MinInt, []byte{0}},
	} {
		if got := pack.Num(nil, x.n); !bytes.Equal(got, x.want) {
			t.Errorf("Num of %d is %x, not %x", x.n, got, x.want)
		}
	}
}

// 2.1: Num is what its sentence says, behind whatever stands ahead of it.
func TestNumBySentence(t *testing.T) {
	all := corners()
	for n := range 40000 {
		all = append(all, n)
	}
	for _, n := range all {
		want := bySentence(n)
		for _, b := range [][]byte{nil, {}, {0x80}, some(30)} {
			got := pack.Num(b, n)
			if !bytes.Equal(got, append(bytes.Clone(b), want...)) {
				t.Fatalf("Num(%x, %d) is %x", b, n, got)
			}
		}
	}
}

// 2.1: Bytes are Num of the length, and the bytes, behind whatever stands ahead of it.
func TestBytesBySentence(t *testing.T) {
	for _, size := range []int{0, 1, 2, 16, 64, 126, 127, 128, 129, 300, 16383, 16384, 70000} {
		x := some(size)
		for _, b := range [][]byte{nil, {}, {0x80}, some(30)} {
			want := append(append(bytes.Clone(b), bySentence(size)...), x...)
			if got := pack.Bytes(b, x); !bytes.Equal(got, want) {
				t.Errorf("%d bytes behind %x are other ones", size, b)
			}
		}
	}
	if got := pack.Bytes(nil, nil); !bytes.Equal(got, []byte{0}) {
		t.Errorf("nothing is %x", got)
	}
	if got := pack.Bytes([]byte("x"), []byte("abc")); string(got) != "x\x03abc" {
		t.Errorf("abc is %x", got)
	}
}

// 2.1, rule 3: what is handed in stays, and so does the room behind it; each answer has memory of its own, its room, too.
func TestAnswersAreNew(t *testing.T) {
	calls := map[string]func(b []byte) []byte{
		"Num":   func(b []byte) []byte { return pack.Num(b, 300) },
		"Bytes": func(b []byte) []byte { return pack.Bytes(b, []byte("abc")) },
		"none":  func(b []byte) []byte { return pack.Bytes(b, nil) },
	}
	for name, call := range calls {
		for size := range 20 {
			room := some(64)
			was := bytes.Clone(room)
			one, two := call(room[:size]), call(room[:size])
			if !bytes.Equal(room, was) {
				t.Fatalf("%s of %d bytes changed what was handed in", name, size)
			}
			kept := bytes.Clone(two)
			clear(one[:cap(one)])
			if !bytes.Equal(room, was) || !bytes.Equal(two, kept) {
				t.Fatalf("%s of %d bytes answers memory that is another's", name, size)
			}
			clear(room)
			if !bytes.Equal(two, kept) {
				t.Fatalf("%s of %d bytes keeps what was handed in", name, size)
			}
		}
	}
}

// 2.1, rule 3: both lists may lie in the same memory.
func TestBytesOfTheSameMemory(t *testing.T) {
	room := []byte("0123456789")
	for _, x := range []struct {
		b, x []byte
		want string
	}{
		{room[:2], room[:2], "01\x0201"},
		{room[:2], room[2:6], "01\x042345"},
		{room[:0], room, "\x0a0123456789"},
		{room[3:5], room[:4], "34\x040123"},
	} {
		if got := pack.Bytes(x.b, x.x); string(got) != x.want {
			t.Errorf("%q, not %q", got, x.want)
		}
	}
	if string(room) != "0123456789" {
		t.Errorf("changed to %q", room)
	}
	x := []byte("abc")
	got := pack.Bytes(nil, x)
	clear(x)
	if string(got) != "\x03abc" {
		t.Errorf("keeps the bytes: %q", got)
	}
}

// 2.1: a number is read as it was written, up to the most that is asked for, and no further.
func TestReadNum(t *testing.T) {
	for _, n := range corners() {
		b := pack.Num(nil, n)
		want := held(n)
		for _, most := range []int{want, want + 1, highest, math.MaxInt} {
			r := pack.Read(b)
			if got := r.Num(most); got != want || !r.Ok() || !r.End() {
				t.Errorf("Num(%d) of %d is %d, Ok is %v, End is %v", most, want, got, r.Ok(), r.End())
			}
		}
		for _, most := range []int{want - 1, want / 2, 0, -1, math.MinInt} {
			if most >= want || want == 0 {
				continue
			}
			r := pack.Read(b)
			if got := r.Num(most); got != 0 {
				t.Errorf("Num(%d) of %d is %d", most, want, got)
			}
			failed(t, r, "a number beyond the most")
		}
	}
}

// 2.1: a most below 0 is 0.
func TestMostBelowNought(t *testing.T) {
	for _, most := range []int{0, -1, math.MinInt} {
		r := pack.Read([]byte{0, 0})
		if n := r.Num(most); n != 0 || !r.Ok() || r.End() {
			t.Errorf("Num(%d) of 0 is %d, Ok is %v", most, n, r.Ok())
		}
		if x := r.Bytes(most); len(x) != 0 || !r.Ok() || !r.End() {
			t.Errorf("Bytes(%d) of none is %x, Ok is %v", most, x, r.Ok())
		}
		r = pack.Read([]byte{1, 7})
		if x := r.Bytes(most); len(x) != 0 {
			t.Errorf("Bytes(%d) of one is %x", most, x)
		}
		failed(t, r, "bytes beyond none")
	}
}

// 2.1: a most beyond 2^62 is 2^62, and a number beyond it is none.
func TestBeyondTheHighest(t *testing.T) {
	for _, b := range [][]byte{
		{0x81, 0x80, 0x80, 0x80, 0x80, 0x80, 0x80, 0x80, 0x40},
		{0x80, 0x80, 0x80, 0x80, 0x80, 0x80, 0x80, 0x80, 0x41},
		{0x80, 0x80, 0x80, 0x80, 0x80, 0x80, 0x80, 0x80, 0x60},
		{0xff, 0xff, 0xff, 0xff, 0xff, 0xff, 0xff, 0xff, 0x7f},
		{0x80, 0x80, 0x80, 0x80, 0x80, 0x80, 0x80, 0x80, 0x80, 1},
		{0x80, 0x80, 0x80, 0x80, 0x80, 0x80, 0x80, 0x80, 0x80, 2},
		{0x81, 0x80, 0x80, 0x80, 0x80, 0x80, 0x80, 0x80, 0x80, 0x7f},
		{0x81, 0x80, 0x80, 0x80, 0x80, 0x80, 0x80, 0x80, 0x80, 0x80, 0x80, 1},
		append(bytes.Repeat([]byte{0xff}, 40), 1),
	} {
		for _, most := range []int{highest, math.MaxInt} {
			r := pack.Read(b)
			if n := r.Num(most); n != 0 {
				t.Errorf("Num(%d) of %x is %d", most, b, n)
			}
			failed(t, r, "a number beyond 2^62")
		}
	}
}

// 2.1, 2.2: a number that is cut off, or not as short as can be, is none.
func TestNoNumber(t *testing.T) {
	for _, b := range [][]byte{
		{},
		{0x80}, {0xff}, {0xff, 0xff}, {0x80, 0x80, 0x80},
		bytes.Repeat([]byte{0x80}, 8), bytes.Repeat([]byte{0x80}, 9), bytes.Repeat([]byte{0x80}, 10), bytes.Repeat([]byte{0xff}, 100),
		{0x80, 0}, {0x81, 0}, {0xff, 0}, {0x80, 0x80, 0}, {0x80, 0x81, 0}, {0xac, 0x82, 0},
		{0x81, 0x80, 0x80, 0x80, 0x80, 0x80, 0x80, 0x80, 0},
		{0x81, 0x80, 0x80, 0x80, 0x80, 0x80, 0x80, 0x80, 0x80, 0},
	} {
		r := pack.Read(b)
		if n := r.Num(highest); n != 0 {
			t.Errorf("Num of %x is %d", b, n)
		}
		failed(t, r, "no number")
		r = pack.Read(b)
		if x := r.Bytes(highest); len(x) != 0 {
			t.Errorf("Bytes of %x are %x", b, x)
		}
		failed(t, r, "no length")
	}
}

// 2.1: bytes are read as they were written, up to the most that is asked for, and no further.
func TestReadBytes(t *testing.T) {
	for _, size := range []int{0, 1, 2, 16, 127, 128, 129, 300, 16384} {
		x := some(size)
		b := pack.Bytes(nil, x)
		for _, most := range []int{size, size + 1, highest, math.MaxInt} {
			r := pack.Read(b)
			if got := r.Bytes(most); !bytes.Equal(got, x) || !r.Ok() || !r.End() {
				t.Errorf("Bytes(%d) of %d are %d", most, size, len(got))
			}
		}
		for _, most := range []int{size - 1, size / 2, 0, -1} {
			if size == 0 || most >= size {
				continue
			}
			r := pack.Read(b)
			if got := r.Bytes(most); len(got) != 0 {
				t.Errorf("Bytes(%d) of %d are %d", most, size, len(got))
			}
			failed(t, r, "bytes beyond the most")
		}
	}
}

// 2.1: of bytes that are cut off none are read, whatever the length says.
func TestBytesCutOff(t *testing.T) {
	whole := pack.Bytes(nil, some(200))
	for cut := range len(whole) {
		r := pack.Read(whole[:cut])
		if x := r.Bytes(200); len(x) != 0 {
			t.Errorf("of %d bytes %d", cut, len(x))
		}
		failed(t, r, "bytes that are cut off")
	}
	for _, n := range []int{3, 1 << 31, 1<<32 + 1, 1 << 40, highest - 1, highest} {
		r := pack.Read(append(pack.Num(nil, n), 1, 2))
		if x := r.Bytes(math.MaxInt); len(x) != 0 {
			t.Errorf("%d bytes of two are %x", n, x)
		}
		failed(t, r, "a length beyond what is there")
	}
}

// 2.1: what stands one behind the other is read so, and the end is where nothing is left.
func TestOneBehindTheOther(t *testing.T) {
	var b []byte
	all := corners()
	for i, n := range all {
		b = pack.Bytes(pack.Num(b, n), some(i))
	}
	r := pack.Read(b)
	for i, n := range all {
		if r.End() {
			t.Fatalf("at its end ahead of %d", i)
		}
		if got := r.Num(highest); got != held(n) || !r.Ok() || r.End() {
			t.Fatalf("%d is read as %d", n, got)
		}
		if got := r.Bytes(i); !bytes.Equal(got, some(i)) || !r.Ok() {
			t.Fatalf("%d bytes are read as %x", i, got)
		}
	}
	if !r.End() {
		t.Error("not at its end")
	}
}

// 2.1: a reader of nothing is Ok and at its end, till more is asked of it.
func TestReadNothing(t *testing.T) {
	for _, b := range [][]byte{nil, {}, make([]byte, 0, 9)} {
		r := pack.Read(b)
		if !r.Ok() || !r.End() {
			t.Error("nothing is not read")
		}
		if n := r.Num(9); n != 0 {
			t.Errorf("a number of nothing is %d", n)
		}
		failed(t, r, "a number of nothing")
		r = pack.Read(b)
		if x := r.Bytes(9); len(x) != 0 {
			t.Errorf("bytes of nothing are %x", x)
		}
		failed(t, r, "bytes of nothing")
	}
}

// 2.1: from what can't be read on nothing is read, though what follows could be.
func TestReadsNothingMore(t *testing.T) {
	faults := map[string]func(r *pack.Reader){
		"a number beyond the most":      func(r *pack.Reader) { r.Num(1) },
		"bytes beyond the most":         func(r *pack.Reader) { r.Bytes(1) },
		"bytes that are not all there":  func(r *pack.Reader) { r.Num(2); r.Bytes(9); r.Bytes(9) },
		"a number that is none, behind": func(r *pack.Reader) { r.Num(2); r.Num(3); r.Num(9); r.Num(1) },
	}
	for name, fault := range faults {
		r := pack.Read([]byte{2, 3, 5, 6, 7, 9, 0, 0, 0})
		fault(r)
		failed(t, r, name)
	}
	r := pack.Read([]byte{1, 0x80, 0})
	if n := r.Num(1); n != 1 {
		t.Errorf("1 is %d", n)
	}
	if n := r.Num(9); n != 0 {
		t.Errorf("no number is %d", n)
	}
	failed(t, r, "no number behind a number")
}

// 2.1: to ask whether it is Ok, or at its end, reads nothing.
func TestAskingReadsNothing(t *testing.T) {
	r := pack.Read([]byte{5, 1, 'a'})
	for range 3 {
		if !r.Ok() || r.End() {
			t.Error("ahead of all")
		}
	}
	if r.Num(5) != 5 {
		t.Error("5 is another")
	}
	for range 3 {
		if !r.Ok() || r.End() {
			t.Error("in the midst")
		}
	}
	if string(r.Bytes(1)) != "a" {
		t.Error("a is another")
	}
	for range 3 {
		if !r.Ok() || !r.End() {
			t.Error("at the end")
		}
	}
}

// 2.1, rule 3: a reader does not keep what it reads of, nor change it, nor read the room behind it.
func TestReaderKeepsNothing(t *testing.T) {
	in := pack.Num(pack.Bytes(pack.Num(nil, 300), []byte("abc")), 9)
	was := bytes.Clone(in)
	r := pack.Read(in)
	other := pack.Read(in)
	clear(in)
	if n := r.Num(300); n != 300 {
		t.Errorf("300 is %d", n)
	}
	if x := r.Bytes(3); string(x) != "abc" {
		t.Errorf("abc is %q", x)
	}
	if n := r.Num(9); n != 9 || !r.End() {
		t.Errorf("9 is %d", n)
	}
	if other.Num(300) != 300 || other.End() {
		t.Error("one reader moves another")
	}
	copy(in, was)
	r = pack.Read(in[:4])
	r.Num(300)
	if x := r.Bytes(3); len(x) != 0 {
		t.Errorf("reads the room behind: %q", x)
	}
	if !bytes.Equal(in, was) {
		t.Error("what is handed in was changed")
	}
}

// 2.1, rule 3: the bytes that are read are new memory, their room, too.
func TestReadBytesAreNew(t *testing.T) {
	in := []byte{2, 'a', 'b', 0, 2, 'c', 'd', 7}
	was := bytes.Clone(in)
	r := pack.Read(in)
	one := r.Bytes(2)
	none := r.Bytes(2)
	for _, x := range [][]byte{one, none} {
		clear(x[:cap(x)])
		_ = append(x, 200, 200, 200, 200, 200)
	}
	two := r.Bytes(2)
	_ = append(one, 200, 200, 200, 200, 200)
	if string(two) != "cd" {
		t.Errorf("cd is %q", two)
	}
	clear(two[:cap(two)])
	_ = append(two, 200)
	if n := r.Num(7); n != 7 || !r.End() {
		t.Errorf("7 is %d", n)
	}
	if !bytes.Equal(in, was) {
		t.Error("what is handed in was changed")
	}
}

// 2.1, rule 3: what is done to bytes that were read is not seen by a copy of the reader, which stands ahead of them still.
func TestReadBytesAreNotTheReaders(t *testing.T) {
	r := pack.Read([]byte{2, 'a', 'b'})
	ahead := *r
	clear(r.Bytes(2))
	if x := ahead.Bytes(2); string(x) != "ab" {
		t.Errorf("ab is %q", x)
	}
}

// oneForm tells of bytes that are read as a number, or as bytes, though they are not what is written of it.
func oneForm(t *testing.T, b []byte) {
	t.Helper()
	r := pack.Read(b)
	if n := r.Num(highest); r.Ok() {
		form := bySentence(n)
		if !bytes.HasPrefix(b, form) || r.End() != (len(form) == len(b)) {
			t.Errorf("%x is read as %d, which is %x", b, n, form)
		}
	} else if n != 0 {
		t.Errorf("%x can't be read, but is %d", b, n)
	}
	r = pack.Read(b)
	if x := r.Bytes(highest); r.Ok() {
		form := append(bySentence(len(x)), x...)
		if !bytes.HasPrefix(b, form) || r.End() != (len(form) == len(b)) {
			t.Errorf("%x is read as %x", b, x)
		}
	} else if len(x) != 0 {
		t.Errorf("%x can't be read, but is %x", b, x)
	}
}

// 2.2: each number has one form: of all short bytes none is read but what is written of a number.
func TestOneForm(t *testing.T) {
	seen := map[int]int{}
	for a := range 256 {
		oneForm(t, []byte{byte(a)})
		for b := range 256 {
			oneForm(t, []byte{byte(a), byte(b)})
			for _, c := range []byte{0, 1, 2, 0x7f, 0x80, 0x81, 0xff} {
				oneForm(t, []byte{byte(a), byte(b), c})
				r := pack.Read([]byte{byte(a), byte(b), c})
				if n := r.Num(highest); r.End() {
					seen[n]++
				}
			}
		}
	}
	for n, times := range seen {
		if times != 1 {
			t.Errorf("%d has %d forms of three bytes", n, times)
		}
	}
}

// 2.2: no number has a form that is the beginning of another's, or longer than nine bytes.
func TestFormsDiffer(t *testing.T) {
	forms := map[string]int{}
	for _, n := range corners() {
		forms[string(pack.Num(nil, n))] = held(n)
	}
	for f, n := range forms {
		for g, o := range forms {
			if n != o && len(f) <= len(g) && g[:len(f)] == f {
				t.Errorf("%d's form begins as %d's", o, n)
			}
		}
		if len(f) > 9 {
			t.Errorf("%d takes %d bytes", n, len(f))
		}
	}
}

// 2.2, W6: noughts behind a number's groups, each with 128 more ahead of them, are told.
func TestLongerFormIsTold(t *testing.T) {
	for _, n := range corners() {
		b := pack.Num(nil, n)
		for noughts := 1; noughts < 12; noughts++ {
			b[len(b)-1] |= 128
			b = append(b, 0)
			r := pack.Read(b)
			if got := r.Num(highest); got != 0 {
				t.Errorf("%x is read as %d", b, got)
			}
			failed(t, r, "a longer form")
		}
	}
}

// 2.3: whatever the bytes and the numbers are, no call panics, and all end and answer as the promises say.
func FuzzReader(f *testing.F) {
	f.Add([]byte(nil), []byte(nil), 0)
	f.Add([]byte{0xac, 2, 3, 'a', 'b', 'c'}, []byte{0, 1}, 300)
	f.Add(bytes.Repeat([]byte{0xff}, 30), []byte{1, 1, 1, 0}, math.MaxInt)
	f.Add([]byte{0x80, 0x80, 0x80, 0x80, 0x80, 0x80, 0x80, 0x80, 0x40, 9}, []byte{1}, math.MinInt)
	f.Add(some(200), some(20), 1<<40)
	f.Fuzz(func(t *testing.T, b, acts []byte, n int) {
		oneForm(t, b)
		if got := pack.Num(b, n); !bytes.Equal(got, append(bytes.Clone(b), bySentence(n)...)) {
			t.Errorf("Num(%x, %d) is %x", b, n, got)
		}
		r := pack.Read(pack.Num(pack.Bytes(nil, b), n))
		if x := r.Bytes(len(b)); !bytes.Equal(x, b) || r.Num(held(n)) != held(n) || !r.End() {
			t.Errorf("%x and %d are read as others", b, n)
		}
		readBack(t, b, acts, n)
	})
}

// readBack reads numbers and bytes of b as acts ask for, and tells where they are not written as b again.
func readBack(t *testing.T, b, acts []byte, most int) {
	t.Helper()
	r := pack.Read(b)
	var again []byte
	for _, a := range acts {
		was := r.Ok()
		if a%2 == 0 {
			n := r.Num(most)
			if r.Ok() {
				again = append(again, bySentence(n)...)
			} else if n != 0 {
				t.Errorf("not Ok, but %d", n)
			}
			if n > held(most) {
				t.Errorf("%d is beyond %d", n, most)
			}
		} else {
			x := r.Bytes(most)
			if r.Ok() {
				again = append(append(again, bySentence(len(x))...), x...)
			} else if len(x) != 0 {
				t.Errorf("not Ok, but %x", x)
			}
			if len(x) > held(most) {
				t.Errorf("%d bytes are beyond %d", len(x), most)
			}
		}
		if r.Ok() && !was {
			t.Error("Ok again")
		}
	}
	if !bytes.HasPrefix(b, again) || r.End() != (r.Ok() && len(again) == len(b)) {
		t.Errorf("%x is read as %x", b, again)
	}
}
