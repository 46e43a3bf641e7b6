package fram_test

import (
	"bytes"
	"encoding/binary"
	"fmt"
	"hash/crc32"
	"math"
	"slices"
	"testing"

	"hocket/api"
	"hocket/fram"
	"hocket/mesg"
)

// high is the greatest number of a message, and top that of an entry.
const (
	high = 1 << 40
	top  = 1 << 30
)

// b is a text as bytes.
func b(s string) []byte { return []byte(s) }

// told is a message as a text, in which nil is an empty list.
func told(m api.Msg) string { return fmt.Sprintf("%v", m) }

// none is the message beside a false.
var none = told(api.Msg{})

// entry is an entry of no small part.
func entry() api.Entry {
	return api.Entry{Sess: 300, Seq: 2, Cmd: api.Cmd{Kind: 3, Who: 999, Key: b("k"), Val: b("va"), Old: b("old")}}
}

// most is an entry at its bounds.
func most() api.Entry {
	full := bytes.Repeat([]byte{0xff}, 32)
	return api.Entry{Sess: top, Seq: top, Cmd: api.Cmd{Kind: top, Who: top, Key: full, Val: full, Old: full}}
}

// well are messages of each kind, small ones and such as are at their bounds, that have no field but those that their kind names.
func well() []api.Msg {
	l := []api.Msg{
		{Kind: api.MState, From: 1, To: 2, View: 300, Inst: 4, Len: 500, Has: true}, {Kind: api.MState, From: 6, To: 6, View: high, Inst: high, Len: high},
		{Kind: api.MCommit, From: 1, To: 2, View: 300, Members: 7, Source: 3, Len: 4}, {Kind: api.MCommit, From: 6, To: 6, View: high, Members: 127, Source: 6, Len: high},
		{Kind: api.MFetch, From: 1, To: 2, View: 300, At: 64}, {Kind: api.MFetch, From: 6, To: 6, View: high, At: high},
		{Kind: api.MToken, From: 1, To: 2, View: 300, Hop: 10, Seq: 1100, Have: []int{12, 1300, 14}, Need: []int{15, 1600}},
		{Kind: api.MToken, From: 6, To: 6, View: high, Hop: high, Seq: high, Have: slices.Repeat([]int{high}, 7), Need: slices.Repeat([]int{high}, 8)},
		{Kind: api.MData, From: 1, To: 2, View: 300, Index: 17, Entry: entry()}, {Kind: api.MData, From: 6, To: 6, View: high, Index: high, Entry: most()},
	}
	for kind := api.MJoin; kind <= api.MData; kind++ {
		l = append(l, api.Msg{Kind: kind}, api.Msg{Kind: kind, From: 1, To: 2, View: 300}, api.Msg{Kind: kind, From: 6, To: 6, View: high})
	}
	for n := range 65 {
		l = append(l, api.Msg{Kind: api.MChunk, At: 64 * n, Total: 1 << (n % 41), Data: bytes.Repeat([]byte{byte(4 * n)}, n)})
	}
	return l
}

// ill are messages of which each is none: of another kind, or beyond one of its bounds.
func ill() []api.Msg {
	l := []api.Msg{
		{}, {Kind: -1}, {Kind: 9}, {Kind: 256 + api.MJoin}, {Kind: math.MinInt}, {Kind: math.MaxInt}, {From: 1, To: 2, View: 3}, {Kind: 9, Data: b("data"), Entry: entry()},
		{Kind: api.MState, Inst: -1}, {Kind: api.MState, Len: high + 1}, {Kind: api.MCommit, Members: 128}, {Kind: api.MCommit, Source: 7}, {Kind: api.MFetch, At: -1},
		{Kind: api.MChunk, Total: math.MaxInt}, {Kind: api.MChunk, Data: make([]byte, 65)}, {Kind: api.MToken, Have: make([]int, 8)}, {Kind: api.MToken, Have: []int{high + 1}}, {Kind: api.MToken, Need: make([]int, 9)}, {Kind: api.MToken, Need: []int{-1}},
		{Kind: api.MData, Index: high + 1}, {Kind: api.MData, Entry: api.Entry{Sess: top + 1}}, {Kind: api.MData, Entry: api.Entry{Cmd: api.Cmd{Who: -1}}}, {Kind: api.MData, Entry: api.Entry{Cmd: api.Cmd{Key: make([]byte, 33)}}},
	}
	for kind := api.MJoin; kind <= api.MData; kind++ {
		for _, n := range []int{-1, 7, 8, math.MinInt, math.MaxInt} {
			l = append(l, api.Msg{Kind: kind, From: n}, api.Msg{Kind: kind, To: n})
		}
		l = append(l, api.Msg{Kind: kind, View: -1}, api.Msg{Kind: kind, View: high + 1}, api.Msg{Kind: kind, View: math.MinInt})
	}
	return l
}

// full is a message of that kind in which each field is another one, also those that its kind does not name.
func full(kind int) api.Msg {
	return api.Msg{Kind: kind, From: 1, To: 2, View: 300, Inst: 4, Len: 500, Has: true, Members: 6, Source: 3, At: 8, Total: 900, Data: b("data"), Hop: 10, Seq: 1100, Have: []int{12, 1300, 14}, Need: []int{15, 1600}, Index: 17, Entry: entry()}
}

// summed is x with its sum ahead of it, word by word of promise 12.1, by the library's sum.
func summed(x []byte) []byte {
	return append(binary.LittleEndian.AppendUint32(nil, crc32.ChecksumIEEE(x)), x...)
}

// openBySentence is what Open answers, word by word of promise 12.1.
func openBySentence(x []byte) (api.Msg, bool) {
	if len(x) < 4 || !bytes.Equal(summed(x[4:]), x) {
		return api.Msg{}, false
	}
	m, ok := mesg.Decode(x[4:])
	if !ok || !bytes.Equal(mesg.Encode(m), x[4:]) {
		return api.Msg{}, false
	}
	return m, true
}

// opens ends the test at bytes that Open answers otherwise than its sentence: of many bytes the first tells enough.
func opens(t *testing.T, x []byte) {
	t.Helper()
	got, ok := fram.Open(x)
	want, is := openBySentence(x)
	if ok != is || told(got) != told(want) {
		t.Fatalf("%x is opened as %s, %v, not %s, %v", x, told(got), ok, told(want), is)
	}
	if ok && !bytes.Equal(fram.Wrap(got), x) {
		t.Fatalf("%x is opened as %s, which is %x", x, told(got), fram.Wrap(got))
	}
}

// refused ends the test at bytes that Open takes for a frame, or of which it tells more than a false.
func refused(t *testing.T, x []byte, why string) {
	t.Helper()
	if got, ok := fram.Open(x); ok || told(got) != none {
		t.Fatalf("%s: %x is opened as %s, %v", why, x, told(got), ok)
	}
}

// What the tests take for messages are such, and what they take for none is none.
func TestSamples(t *testing.T) {
	for _, m := range well() {
		if got, ok := mesg.Decode(mesg.Encode(m)); !ok || told(got) != told(m) {
			t.Error(told(m))
		}
	}
	for _, m := range ill() {
		if len(mesg.Encode(m)) > 0 {
			t.Error(told(m))
		}
	}
}

// 12.1: frames that are known, of each kind.
func TestKnownFrames(t *testing.T) {
	for i, x := range []struct {
		m    api.Msg
		want []byte
	}{
		{api.Msg{Kind: api.MJoin}, []byte{0x79, 0xb8, 0xf8, 0x99, 1, 0, 0, 0}},
		{api.Msg{Kind: api.MJoin, From: 6, To: 5, View: 300}, []byte{0x53, 0xd1, 0x5e, 0x34, 1, 6, 5, 0xac, 2}},
		{api.Msg{Kind: api.MState}, []byte{0x57, 0xce, 0xf3, 0x0a, 2, 0, 0, 0, 0, 0, 0}},
		{api.Msg{Kind: api.MState, From: 1, To: 2, View: 3, Inst: 4, Len: 128, Has: true}, []byte{0x7b, 0x85, 0x53, 0x8b, 2, 1, 2, 3, 4, 0x80, 1, 1}},
		{api.Msg{Kind: api.MCommit, From: 1, To: 2, View: 3, Members: 127, Source: 6, Len: 4}, []byte{0x3a, 0xa6, 0x37, 0x01, 3, 1, 2, 3, 127, 6, 4}},
		{api.Msg{Kind: api.MFetch, From: 1, To: 2, View: 3, At: 64}, []byte{0x85, 0xf0, 0x6b, 0xd5, 4, 1, 2, 3, 64}},
		{api.Msg{Kind: api.MChunk, From: 1, To: 2, View: 3, At: 4, Total: 500, Data: b("data")}, []byte{0x66, 0x6a, 0x58, 0xf4, 5, 1, 2, 3, 4, 0xf4, 3, 4, 'd', 'a', 't', 'a'}},
		{api.Msg{Kind: api.MReady, From: 1, To: 2, View: 3}, []byte{0xcf, 0xd9, 0xd2, 0xae, 6, 1, 2, 3}},
		{api.Msg{Kind: api.MToken, From: 1, To: 2, View: 3, Hop: 4, Seq: 5}, []byte{0xa3, 0x53, 0x51, 0x4a, 7, 1, 2, 3, 4, 5, 0, 0}},
		{api.Msg{Kind: api.MToken, From: 1, To: 2, View: 3, Hop: 4, Seq: 5, Have: []int{6, 300}, Need: []int{7, 0, 7}}, []byte{0x53, 0x8b, 0x30, 0xe3, 7, 1, 2, 3, 4, 5, 2, 6, 0xac, 2, 3, 7, 0, 7}},
		{api.Msg{Kind: api.MData, From: 1, To: 2, View: 3, Index: 4}, []byte{0x53, 0x8d, 0x65, 0x05, 8, 1, 2, 3, 4, 0, 0, 0, 0, 0, 0, 0}},
		{api.Msg{Kind: api.MData, From: 1, To: 2, View: 3, Index: 4, Entry: entry()}, []byte{0xd2, 0x73, 0xbf, 0xf8, 8, 1, 2, 3, 4, 0xac, 2, 2, 3, 0xe7, 7, 1, 'k', 2, 'v', 'a', 3, 'o', 'l', 'd'}},
	} {
		if got := fram.Wrap(x.m); !bytes.Equal(got, x.want) {
			t.Errorf("%d: %x, not %x", i, got, x.want)
		}
		if got, ok := fram.Open(x.want); !ok || told(got) != told(x.m) {
			t.Errorf("%d: %s, %v, not %s", i, told(got), ok, told(x.m))
		}
	}
}

// 12.1, W6: bytes that are known to be no frame: none, such as are shorter than a sum, such as have another sum, and such as have the right sum of what is no message.
func TestKnownNone(t *testing.T) {
	for _, x := range []struct {
		why string
		in  []byte
	}{
		{"none", nil}, {"empty", []byte{}}, {"one byte", []byte{0}}, {"three bytes", []byte{0, 0, 0}}, {"short of a sum", []byte{0x79, 0xb8, 0xf8}},
		{"a sum alone", []byte{0x79, 0xb8, 0xf8, 0x99}}, {"a message alone", []byte{1, 0, 0, 0}}, {"a longer message alone", []byte{1, 6, 5, 0xac, 2}},
		{"no sum", []byte{0, 0, 0, 0, 1, 0, 0, 0}}, {"a sum of all bits", []byte{0xff, 0xff, 0xff, 0xff, 1, 0, 0, 0}}, {"the highest first", []byte{0x99, 0xf8, 0xb8, 0x79, 1, 0, 0, 0}}, {"not turned at the end", []byte{0x86, 0x47, 0x07, 0x66, 1, 0, 0, 0}}, {"the sum behind", []byte{1, 0, 0, 0, 0x79, 0xb8, 0xf8, 0x99}},
		{"right of no bytes", []byte{0, 0, 0, 0}}, {"right of a nought", []byte{0x8d, 0xef, 0x02, 0xd2, 0}}, {"right of the zero message", []byte{0x1c, 0xdf, 0x44, 0x21, 0, 0, 0, 0}}, {"right of kind 9", []byte{0x96, 0x90, 0x4c, 0x5c, 9, 0, 0, 0}},
	} {
		refused(t, x.in, x.why)
	}
}

// 12.1: whatever the message is, its frame is what the sentence says, and is opened as it.
func TestFrameBySentence(t *testing.T) {
	for _, m := range well() {
		x := summed(mesg.Encode(m))
		if got := fram.Wrap(m); !bytes.Equal(got, x) {
			t.Errorf("%s: %x, not %x", told(m), got, x)
		}
		if got, ok := fram.Open(x); !ok || told(got) != told(m) || !mesg.Same(got, m) {
			t.Errorf("%s is opened as %s, %v", told(m), told(got), ok)
		}
	}
}

// 12.1: of a message that is none there is nothing, not so much as a sum.
func TestNoneIsNothing(t *testing.T) {
	for _, m := range ill() {
		if got := fram.Wrap(m); len(got) != 0 {
			t.Errorf("%s: %x", told(m), got)
		}
		if got, ok := fram.Open(fram.Wrap(m)); ok || told(got) != none {
			t.Errorf("%s is opened as %s, %v", told(m), told(got), ok)
		}
	}
}

// 12.1: fields that a kind does not name do not count: they are not in the frame, and are opened as zero.
func TestOtherFields(t *testing.T) {
	for kind := api.MJoin; kind <= api.MData; kind++ {
		m := full(kind)
		x := fram.Wrap(m)
		got, ok := fram.Open(x)
		if !ok || mesg.Same(got, m) || !bytes.Equal(mesg.Encode(got), mesg.Encode(m)) || !bytes.Equal(x, fram.Wrap(got)) {
			t.Errorf("%s is opened as %s, %v", told(m), told(got), ok)
		}
	}
	far := api.Msg{Kind: api.MJoin, From: 1, To: 2, View: 3, Inst: -1, Source: 7, Data: make([]byte, 1000), Have: make([]int, 8), Entry: api.Entry{Sess: -1}}
	if got, ok := fram.Open(fram.Wrap(far)); !ok || told(got) != told(api.Msg{Kind: api.MJoin, From: 1, To: 2, View: 3}) {
		t.Errorf("%s, %v", told(got), ok)
	}
}

// 12.2, W6: whatever bit of whatever frame is turned, it is told; turned back, the frame is what it was.
func TestOneBit(t *testing.T) {
	for _, m := range well() {
		x := fram.Wrap(m)
		if len(x) < 8 {
			t.Fatalf("%s: %x", told(m), x)
		}
		for bit := range 8 * len(x) {
			x[bit/8] ^= 1 << (bit % 8)
			refused(t, x, fmt.Sprintf("bit %d of %s", bit, told(m)))
			x[bit/8] ^= 1 << (bit % 8)
		}
		if got, ok := fram.Open(x); !ok || told(got) != told(m) {
			t.Errorf("%s is opened as %s, %v", told(m), told(got), ok)
		}
	}
}

// 12.1, W6: whatever stands in the place of a byte, or between two, or is left out, the bytes are a frame's, or none's.
func TestTurnedBytes(t *testing.T) {
	for i, m := range well() {
		x := fram.Wrap(m)
		if len(x) > 60 && i%8 != 0 {
			continue
		}
		for at := range x {
			for c := range 256 {
				y := bytes.Clone(x)
				y[at] = byte(c)
				opens(t, y)
			}
			for _, c := range []byte{0, 1, 2, 127, 128, 255, x[at]} {
				opens(t, slices.Insert(bytes.Clone(x), at, c))
			}
			opens(t, slices.Delete(bytes.Clone(x), at, at+1))
		}
	}
}

// 12.1, W6: bytes that are cut off at either end, or have more about them, are no frame.
func TestCutOff(t *testing.T) {
	for _, m := range well() {
		x := fram.Wrap(m)
		for cut := range x {
			refused(t, x[:cut], "cut behind")
			refused(t, x[cut+1:], "cut ahead")
		}
		for _, more := range [][]byte{{0}, {1}, {0x80}, {0xff}, {0, 0, 0, 0}, x} {
			refused(t, slices.Concat(x, more), "more behind")
			refused(t, slices.Concat(more, x), "more ahead")
		}
	}
}

// 12.1, W6: one message's bytes have one sum: with any other they are no frame.
func TestOtherSums(t *testing.T) {
	l := well()
	for i, m := range l {
		x := fram.Wrap(m)
		right := binary.LittleEndian.Uint32(x)
		for _, c := range []uint32{0, 1, math.MaxUint32, ^right, right + 1, right - 1, right << 8, right >> 8, right & 0xffff, right &^ 0xff, right ^ 0xff00, uint32(len(x)), binary.BigEndian.Uint32(x), crc32.ChecksumIEEE(x), crc32.Checksum(x[4:], crc32.MakeTable(crc32.Castagnoli))} {
			if c != right {
				refused(t, append(binary.LittleEndian.AppendUint32(nil, c), x[4:]...), "another sum")
			}
		}
		other := fram.Wrap(l[(i+1)%len(l)])
		refused(t, slices.Concat(other[:4], x[4:]), "another one's sum")
		refused(t, slices.Concat(x[4:], x[:4]), "the sum behind")
	}
}

// 12.1, W6: a right sum makes no message of what is none: a number in a longer form, a field beyond its bounds, bytes that are cut off, or have more behind them.
func TestRightSum(t *testing.T) {
	for _, x := range [][]byte{
		{0x81, 0, 0, 0, 0}, {1, 0x81, 0, 0, 0}, {1, 0, 0, 0x80, 0}, {1, 7, 0, 0}, {1, 0, 7, 0}, {1, 0, 0, 0x81, 0x80, 0x80, 0x80, 0x80, 0x20},
		{2, 0, 0, 0, 0, 0, 2}, {3, 0, 0, 0, 0x80, 1, 0, 0}, {3, 0, 0, 0, 0, 7, 0}, {5, 0, 0, 0, 0, 0, 1}, append([]byte{7, 0, 0, 0, 0, 0, 8}, make([]byte, 9)...), {8, 0, 0, 0, 0, 0x81, 0x80, 0x80, 0x80, 4, 0, 0, 0, 0, 0, 0},
	} {
		refused(t, summed(x), "of no message")
	}
	for _, m := range well() {
		x := mesg.Encode(m)
		for cut := range x {
			refused(t, summed(x[:cut]), "of a message that is cut off")
		}
		refused(t, summed(append(x, 0)), "of a message with more behind it")
		refused(t, summed(summed(x)), "of a frame")
	}
}

// 12.1, W6: of all short bytes, as they are and with a right sum, those of a message are opened, each as its own, and no others.
func TestShortBytes(t *testing.T) {
	few := []byte{0, 1, 2, 6, 7, 8, 0x80, 0xff}
	all := [][]byte{nil}
	for range 6 {
		var longer [][]byte
		for _, x := range all {
			opens(t, x)
			opens(t, summed(x))
			for _, c := range few {
				longer = append(longer, append(bytes.Clone(x), c))
			}
		}
		all = longer
	}
	for i := range 256 {
		for k := range 256 {
			opens(t, []byte{byte(i), byte(k), 0, 0})
			opens(t, summed([]byte{byte(i), byte(k), 0, 0}))
			opens(t, summed([]byte{1, 0, byte(i), byte(k)}))
			opens(t, summed([]byte{byte(i), 0, 0, 0, byte(k), 0, 0}))
		}
	}
}

// 12.3: what is long is no frame, in time, also with a right sum, and a message with long lists is none.
func TestLong(t *testing.T) {
	huge, row := make([]byte, 1<<22), make([]int, 1<<20)
	for _, m := range []api.Msg{{Kind: api.MChunk, Data: huge}, {Kind: api.MToken, Have: row}, {Kind: api.MToken, Need: row}, {Kind: api.MData, Entry: api.Entry{Cmd: api.Cmd{Key: huge, Val: huge, Old: huge}}}} {
		if got := fram.Wrap(m); len(got) != 0 {
			t.Errorf("kind %d: %d bytes", m.Kind, len(got))
		}
	}
	for _, c := range []byte{0, 1, 5, 0x7f, 0x80, 0xff} {
		x := bytes.Repeat([]byte{c}, 1<<20)
		opens(t, x)
		opens(t, summed(x))
		opens(t, summed(append([]byte{5, 0, 0, 0, 0, 0}, x...)))
	}
}

// 12.3: whatever the numbers and lists are, no call panics, and each answers by the sentence.
func TestAnyNumbers(t *testing.T) {
	for _, n := range []int{math.MinInt, math.MinInt + 1, -high, -1, 0, 1, 6, 7, 8, 9, 64, 65, 127, 128, top, top + 1, high, high + 1, 1 << 62, math.MaxInt} {
		for kind := -2; kind <= 12; kind++ {
			list, row := make([]byte, n&127), slices.Repeat([]int{n}, n&15)
			for _, to := range []int{0, n} {
				m := api.Msg{Kind: kind, From: to, To: to, View: n, Inst: n, Len: n, Has: n > 0, Members: n, Source: n, At: n, Total: n, Data: list, Hop: n, Seq: n, Have: row, Need: row, Index: n, Entry: api.Entry{Sess: n, Seq: n, Cmd: api.Cmd{Kind: n, Who: n, Key: list, Val: list, Old: list}}}
				x := mesg.Encode(m)
				if got := fram.Wrap(m); len(x) == 0 && len(got) > 0 || len(x) > 0 && !bytes.Equal(got, summed(x)) {
					t.Errorf("%s: %x", told(m), got)
				}
				opens(t, fram.Wrap(m))
			}
		}
	}
}

// 12.1, rule 6: the same is answered, whatever was asked ahead of it.
func TestNothingIsKept(t *testing.T) {
	for _, m := range well() {
		x := fram.Wrap(m)
		fram.Wrap(full(api.MToken))
		fram.Open(summed(b("else")))
		if !bytes.Equal(fram.Wrap(m), x) {
			t.Errorf("%s: another frame", told(m))
		}
		opens(t, x)
	}
}

// 12.1 to 12.3: whatever the bytes are, they are a frame's, or none's, also with a right sum, one bit that is turned is told, and no call panics.
func FuzzOpen(f *testing.F) {
	for _, m := range well() {
		f.Add(mesg.Encode(m), 5)
		f.Add(fram.Wrap(m), 40)
	}
	f.Fuzz(func(t *testing.T, x []byte, bit int) {
		opens(t, x)
		y := summed(x)
		opens(t, y)
		at := int(uint(bit) % uint(8*len(y)))
		y[at/8] ^= 1 << (at % 8)
		refused(t, y, "one bit is turned")
	})
}
