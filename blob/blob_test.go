package blob_test

import (
	"bytes"
	"encoding/binary"
	"fmt"
	"hash/crc32"
	"math"
	"slices"
	"strings"
	"testing"

	"hocket/api"
	"hocket/blob"
	"hocket/mach"
	"hocket/pack"
)

// The bounds, as the document lays them: mostRest is how many entries a state has at most, mostIndex the greatest index of the last of them, top the greatest number of an entry, highest the greatest that is written, longest how many bytes each list of an entry has at most.
const (
	mostRest  = 64
	mostIndex = 1 << 39
	top       = 1 << 30
	highest   = 1 << 62
	longest   = 32
)

// b is a text as bytes.
func b(s string) []byte { return []byte(s) }

// ent is an entry.
func ent(sess, seq int, c api.Cmd) api.Entry {
	return api.Entry{Sess: sess, Seq: seq, Cmd: c}
}

// told is a state as a text, in which nil is an empty list.
func told(s api.State) string { return fmt.Sprintf("%v", s) }

// same tells if s is want: as told, and in less time.
func same(s, want api.State) bool {
	return s.At == want.At && mach.Same(s.Machine, want.Machine) && slices.EqualFunc(s.Rest, want.Rest, mach.SameEntry)
}

// none is the state beside a false.
var none = told(api.State{})

// num is n as bytes, and text a list of bytes, word by word of promise 2.1.
func num(n int) []byte {
	return binary.AppendUvarint(nil, uint64(min(max(n, 0), highest)))
}

func text(x []byte) []byte {
	return append(num(len(x)), x...)
}

// summed is x, and its sum ahead of it, the lowest byte first, by the library's sum.
func summed(x []byte) []byte {
	return append(binary.LittleEndian.AppendUint32(nil, crc32.ChecksumIEEE(x)), x...)
}

// bodyOf is what the sum of s is of, word by word of promise 15.1.
func bodyOf(s api.State) []byte {
	out := slices.Concat(num(s.At), text(mach.Encode(s.Machine)), num(len(s.Rest)))
	for _, e := range s.Rest {
		out = append(out, mach.PutEntry(nil, e)...)
	}
	return out
}

// encodeBySentence is what Encode answers, word by word of promise 15.1.
func encodeBySentence(s api.State) []byte {
	return summed(bodyOf(s))
}

// takeNum and takeText read a number, in any form, and a list of bytes off x's head.
func takeNum(x []byte) (n int, rest []byte, ok bool) {
	u, size := binary.Uvarint(x)
	if size <= 0 || u > highest {
		return 0, nil, false
	}
	return int(u), x[size:], true
}

func takeText(x []byte) (s, rest []byte, ok bool) {
	n, x, ok := takeNum(x)
	if !ok || n > len(x) {
		return nil, nil, false
	}
	return x[:n], x[n:], true
}

// decodeBySentence is what Decode answers, word by word of promise 15.1: what the bytes may be is read as loosely as can be, and held to the bounds, and to what is written of it.
func decodeBySentence(x []byte) (api.State, bool) {
	if len(x) < 4 {
		return api.State{}, false
	}
	at, rest, ok := takeNum(x[4:])
	if !ok || at > mostIndex {
		return api.State{}, false
	}
	form, rest, ok := takeText(rest)
	if !ok {
		return api.State{}, false
	}
	n, rest, ok := takeNum(rest)
	if !ok || n > mostRest || at+n > mostIndex {
		return api.State{}, false
	}
	m, ok := mach.Decode(form)
	s := api.State{At: at, Machine: m}
	for range n {
		// An entry takes fewer bytes than these: the others need not be handed on each time.
		r := pack.Read(rest[:min(len(rest), 200)])
		e := mach.GetEntry(r)
		if !r.Ok() {
			return api.State{}, false
		}
		s.Rest = append(s.Rest, e)
		rest = rest[len(mach.PutEntry(nil, e)):]
	}
	if !ok || !bytes.Equal(encodeBySentence(s), x) {
		return api.State{}, false
	}
	return s, true
}

// reads ends the test at bytes that Decode answers otherwise than its sentence: of many bytes the first tells enough.
func reads(t *testing.T, x []byte) {
	t.Helper()
	got, ok := blob.Decode(x)
	want, is := decodeBySentence(x)
	if ok != is || !same(got, want) {
		t.Fatalf("%x is read as %s, %v, not %s, %v", x, told(got), ok, told(want), is)
	}
	if ok && !bytes.Equal(blob.Encode(got), x) {
		t.Fatalf("%x is read as %s, which is %x", x, told(got), blob.Encode(got))
	}
}

// refused ends the test at bytes that Decode takes for a state's, or of which it tells more than a false.
func refused(t *testing.T, x []byte, why string) {
	t.Helper()
	if got, ok := blob.Decode(x); ok || told(got) != none {
		t.Fatalf("%s: %x is read as %s, %v", why, x, told(got), ok)
	}
}

// small is a machine of which each part has something.
func small() api.Machine {
	return api.Machine{
		Objects: api.Objects{Reg: b("reg"), Queue: [][]byte{b("q"), b(""), b("w")}, Lock: []int{7, 999, 0}, Map: []api.Pair{{Key: b(""), Val: b("v")}, {Key: b("k"), Val: b("w")}}},
		Table:   []api.Last{{Sess: 1, Seq: 300, Result: api.Result{Err: 3, Val: b("r"), N: 4}}, {Sess: 5, Seq: 6, Result: api.Result{N: -1}}},
	}
}

// big is the longest machine that keeps its bounds.
func big() api.Machine {
	v := bytes.Repeat([]byte{0xff}, api.MaxVal)
	m := api.Machine{Objects: api.Objects{Reg: v, Queue: slices.Repeat([][]byte{v}, api.MaxQueue), Lock: []int{999, 998, 997, 996, 995}}}
	for i := range api.MaxMap {
		m.Objects.Map = append(m.Objects.Map, api.Pair{Key: append(bytes.Repeat([]byte{0xff}, api.MaxKey-1), byte(i)), Val: v})
	}
	for i := range api.MaxSessions {
		m.Table = append(m.Table, api.Last{Sess: top - api.MaxSessions + i + 1, Seq: top, Result: api.Result{Err: 10, Val: v, N: top}})
	}
	return m
}

// row are n entries, each another.
func row(n int) []api.Entry {
	var l []api.Entry
	for i := range n {
		l = append(l, ent(1+i%8, 100+i, api.Cmd{Kind: 1 + i%11, Who: 13 * i % 1000, Key: b(fmt.Sprint("k", i)), Val: b(strings.Repeat("v", i%17)), Old: b("o")[:i%2]}))
	}
	return l
}

// full is an entry at its bounds.
func full() api.Entry {
	x := bytes.Repeat([]byte{0x80}, longest)
	return ent(top, top, api.Cmd{Kind: top, Who: top, Key: x, Val: x, Old: x})
}

// well are states within their bounds.
func well() []api.State {
	l := []api.State{
		{}, {At: 1}, {At: 127}, {At: 128}, {At: 300}, {At: mostIndex - 1}, {At: mostIndex}, {Machine: small()}, {Machine: big()}, {At: mostIndex, Machine: big()},
		{Rest: row(1)}, {Rest: make([]api.Entry, 1)}, {Rest: make([]api.Entry, mostRest)}, {Rest: []api.Entry{full()}}, {At: mostIndex - 1, Rest: row(1)}, {At: mostIndex - mostRest, Machine: big(), Rest: slices.Repeat([]api.Entry{full()}, mostRest)},
		{At: 5, Machine: small(), Rest: row(3)}, {At: mostIndex - mostRest, Machine: small(), Rest: row(mostRest)}, {At: 300, Machine: api.Machine{Table: []api.Last{{Sess: 1, Seq: 1}}}, Rest: []api.Entry{ent(0, 0, api.Cmd{Kind: 99, Who: 1000}), full(), {}, full()}},
	}
	for n := 2; n <= mostRest; n += 5 {
		l = append(l, api.State{At: 1000 * n, Machine: small(), Rest: row(n)})
	}
	return l
}

// ill are states of which each breaks one of its bounds.
func ill() []api.State {
	l := []api.State{
		{At: mostIndex + 1}, {At: mostIndex + 64}, {At: 1 << 40}, {At: 1<<40 + 1}, {At: highest}, {At: math.MaxInt}, {At: mostIndex, Rest: row(1)}, {At: mostIndex - 1, Rest: row(2)}, {At: mostIndex - 63, Rest: row(64)}, {At: mostIndex + 1, Machine: small(), Rest: row(3)},
		{Rest: row(mostRest + 1)}, {Rest: make([]api.Entry, mostRest+1)}, {At: 5, Machine: small(), Rest: row(128)}, {Rest: row(200)},
		{Machine: api.Machine{Objects: api.Objects{Reg: make([]byte, api.MaxVal+1)}}}, {Machine: api.Machine{Objects: api.Objects{Queue: make([][]byte, api.MaxQueue+1)}}}, {Machine: api.Machine{Objects: api.Objects{Lock: []int{1, 1}}}}, {Machine: api.Machine{Objects: api.Objects{Lock: []int{1000}}}},
		{Machine: api.Machine{Objects: api.Objects{Map: []api.Pair{{Key: b("b")}, {Key: b("a")}}}}}, {Machine: api.Machine{Table: []api.Last{{}}}}, {At: 9, Machine: api.Machine{Table: []api.Last{{Sess: 2, Seq: 1}, {Sess: 1, Seq: 1}}}, Rest: row(2)},
	}
	far := make([]byte, longest+1)
	for _, e := range []api.Entry{ent(top+1, 1, api.Cmd{}), ent(1, top+1, api.Cmd{}), ent(1, 1, api.Cmd{Kind: top + 1}), ent(1, 1, api.Cmd{Who: math.MaxInt}), ent(1, 1, api.Cmd{Key: far}), ent(1, 1, api.Cmd{Val: far}), ent(1, 1, api.Cmd{Old: far})} {
		l = append(l, api.State{Rest: []api.Entry{e}}, api.State{At: 7, Machine: small(), Rest: slices.Concat(row(2), []api.Entry{e})}, api.State{Rest: slices.Concat([]api.Entry{e}, row(mostRest-1))}, api.State{Rest: slices.Concat(row(mostRest-1), []api.Entry{e})})
	}
	return l
}

// 15.1: the bounds, as the document tells them.
func TestSamples(t *testing.T) {
	for _, s := range well() {
		if n := len(s.Rest); s.At < 0 || n > 64 || s.At+n > 549755813888 {
			t.Error(told(s))
		}
		if _, ok := decodeBySentence(encodeBySentence(s)); !ok {
			t.Error(told(s))
		}
	}
	for _, s := range ill() {
		if _, ok := decodeBySentence(encodeBySentence(s)); ok {
			t.Error(told(s))
		}
	}
}

// 15.1: bytes that are known.
func TestKnownBytes(t *testing.T) {
	reg := api.Machine{Objects: api.Objects{Reg: b("a")}}
	for i, x := range []struct {
		s    api.State
		want []byte
	}{
		{api.State{}, []byte{0xce, 0xf0, 0x1a, 0x37, 0, 5, 0, 0, 0, 0, 0, 0}},
		{api.State{At: 300}, []byte{0x8c, 0x4d, 0x84, 0xf4, 0xac, 2, 5, 0, 0, 0, 0, 0, 0}},
		{api.State{At: 1, Machine: reg}, []byte{0x21, 0xde, 0xc2, 0x52, 1, 6, 1, 'a', 0, 0, 0, 0, 0}},
		{api.State{At: 2, Rest: []api.Entry{{}}}, []byte{0x85, 0xdc, 0x5c, 0x37, 2, 5, 0, 0, 0, 0, 0, 1, 0, 0, 0, 0, 0, 0, 0}},
		{api.State{At: 3, Machine: reg, Rest: []api.Entry{ent(1, 2, api.Cmd{Kind: 3, Who: 4, Key: b("k"), Val: b("va"), Old: b("old")}), ent(300, 1, api.Cmd{Kind: 1})}}, []byte{0x8d, 0x07, 0xd8, 0x18, 3, 6, 1, 'a', 0, 0, 0, 0, 2, 1, 2, 3, 4, 1, 'k', 2, 'v', 'a', 3, 'o', 'l', 'd', 0xac, 2, 1, 1, 0, 0, 0, 0}},
		{api.State{At: 1 << 39}, []byte{0x28, 0x2e, 0xeb, 0x16, 0x80, 0x80, 0x80, 0x80, 0x80, 0x10, 5, 0, 0, 0, 0, 0, 0}},
	} {
		if got := blob.Encode(x.s); !bytes.Equal(got, x.want) {
			t.Errorf("%d: %x, not %x", i, got, x.want)
		}
		if got, ok := blob.Decode(x.want); !ok || told(got) != told(x.s) {
			t.Errorf("%d: %x is read as %s, %v", i, x.want, told(got), ok)
		}
	}
}

// 15.1: whatever the state is, its bytes are what the sentence says; of one within its bounds they are read as it, of another as none.
func TestBytesBySentence(t *testing.T) {
	for _, s := range slices.Concat(well(), ill()) {
		if got, want := blob.Encode(s), encodeBySentence(s); !bytes.Equal(got, want) {
			t.Errorf("%s: %x, not %x", told(s), got, want)
		}
	}
	for _, s := range well() {
		if got, ok := blob.Decode(encodeBySentence(s)); !ok || told(got) != told(s) || !same(got, s) {
			t.Errorf("%s is read as %s, %v", told(s), told(got), ok)
		}
	}
	for _, s := range ill() {
		refused(t, encodeBySentence(s), told(s))
	}
}

// 15.1: At, how many Rest, and both together are held to their bounds, each at its own.
func TestEachBound(t *testing.T) {
	var ats []int
	for d := -66; d <= 66; d++ {
		ats = append(ats, mostIndex+d, 1<<40+d, 128+d)
	}
	for _, at := range append(ats, highest-1, highest, 3<<39) {
		for _, n := range []int{0, 1, 2, 3, 62, 63, 64, 65, 66, 127, 128, 129} {
			s := api.State{At: at, Machine: small(), Rest: make([]api.Entry, n)}
			got, ok := blob.Decode(blob.Encode(s))
			is, want := at+n <= mostIndex && n <= mostRest, none
			if is {
				want = told(s)
			}
			if ok != is || told(got) != want {
				t.Fatalf("At %d, %d Rest: %v", at, n, ok)
			}
		}
	}
}

// 15.1: numbers below all that are written are written as the least.
func TestBelow(t *testing.T) {
	for _, at := range []int{-1, -64, -300, -mostIndex, math.MinInt, math.MinInt + 1} {
		s, want := api.State{At: at, Machine: small(), Rest: row(2)}, api.State{Machine: small(), Rest: row(2)}
		x := blob.Encode(s)
		if got, ok := blob.Decode(x); !bytes.Equal(x, encodeBySentence(want)) || !ok || told(got) != told(want) {
			t.Errorf("At %d: %x, read as %s, %v", at, x, told(got), ok)
		}
	}
	s := api.State{Rest: []api.Entry{ent(-1, math.MinInt, api.Cmd{Kind: -5, Who: -6, Key: b("k")})}}
	if got, ok := blob.Decode(blob.Encode(s)); !ok || told(got) != told(api.State{Rest: []api.Entry{ent(0, 0, api.Cmd{Key: b("k")})}}) {
		t.Error(told(got), ok)
	}
}

// 15.1: each state has bytes of its own.
func TestBytesDiffer(t *testing.T) {
	seen := map[string]string{}
	for _, s := range well() {
		for _, x := range []api.State{s, {At: s.At + 1, Machine: s.Machine, Rest: s.Rest}, {At: s.At, Rest: s.Rest}, {At: s.At, Machine: s.Machine, Rest: s.Rest[:len(s.Rest)/2]}, {At: s.At, Machine: s.Machine, Rest: s.Rest[len(s.Rest)/2:]}} {
			form := string(blob.Encode(x))
			if was, there := seen[form]; there && was != told(x) {
				t.Errorf("%s, and %s, are %x", was, told(x), form)
			}
			seen[form] = told(x)
		}
	}
	if len(seen) < len(well()) {
		t.Error(len(seen))
	}
}

// 15.1, rule 1: nil and an empty list are the same.
func TestEmptyLists(t *testing.T) {
	empty := api.State{Machine: api.Machine{Objects: api.Objects{Reg: b(""), Queue: [][]byte{}, Lock: []int{}, Map: []api.Pair{}}, Table: []api.Last{}}, Rest: []api.Entry{}}
	if got, want := blob.Encode(empty), blob.Encode(api.State{}); !bytes.Equal(got, want) {
		t.Errorf("%x, not %x", got, want)
	}
	refused(t, nil, "nil")
	refused(t, b(""), "empty")
}

// 15.1, W6: bytes with any bit turned are no state's, nor with any two in short ones.
func TestTurnedBits(t *testing.T) {
	for _, s := range well() {
		x := encodeBySentence(s)
		// Of long ones every so many bits, so many that each place in a byte has its turn.
		step := 2*(len(x)/1000) + 1
		for i := 0; i < 8*len(x); i += step {
			x[i/8] ^= 1 << (i % 8)
			refused(t, x, "a bit is turned")
			for j := range i {
				if len(x) > 40 {
					break
				}
				x[j/8] ^= 1 << (j % 8)
				refused(t, x, "two bits are turned")
				x[j/8] ^= 1 << (j % 8)
			}
			x[i/8] ^= 1 << (i % 8)
		}
	}
}

// 15.1, W6: bytes that are cut off at either end, or have more about them, are no state's.
func TestCutOff(t *testing.T) {
	for _, s := range well() {
		x := encodeBySentence(s)
		for cut := range x {
			refused(t, x[:cut], "cut behind")
			refused(t, x[cut+1:], "cut ahead")
			refused(t, slices.Concat(x[:cut], x[cut+1:]), "cut out")
		}
		for _, more := range [][]byte{{0}, {1}, {0x80}, {0xff}, {0, 0, 0, 0}, x} {
			refused(t, slices.Concat(x, more), "more behind")
			refused(t, slices.Concat(more, x), "more ahead")
		}
	}
}

// 15.1: a right sum makes no state of a body that is cut off, or has more behind it.
func TestRightSumOfOtherBodies(t *testing.T) {
	for _, s := range well() {
		x := bodyOf(s)
		for cut := range x {
			refused(t, summed(x[:cut]), "a body that is cut off")
		}
		for _, more := range [][]byte{{0}, {1}, {0x80}, {0, 0, 0, 0, 0, 0, 0}, x} {
			refused(t, summed(slices.Concat(x, more)), "a body with more behind it")
		}
		refused(t, summed(encodeBySentence(s)), "a sum twice")
	}
}

// 15.1: with a right sum, whatever stands in the place of a byte, or between two, or is left out, the bytes are those of a state, or of none.
func TestRightSumOfTurnedBytes(t *testing.T) {
	for i, s := range slices.Concat(well(), ill()) {
		x := bodyOf(s)
		if len(x) > 200 && i%4 != 0 {
			continue
		}
		// Of long ones all of the head, and then every so many bytes.
		for at := 0; at < len(x); at += 1 + at/20 {
			for _, c := range []byte{0, 1, 2, 5, 6, 63, 64, 65, 127, 128, 129, 255, x[at] + 1, x[at] - 1, x[at] ^ 128} {
				y := bytes.Clone(x)
				y[at] = c
				reads(t, summed(y))
				reads(t, summed(slices.Insert(bytes.Clone(x), at, c)))
			}
			reads(t, summed(slices.Delete(bytes.Clone(x), at, at+1)))
			// A number in a longer form says the same, and is none.
			reads(t, summed(slices.Replace(bytes.Clone(x), at, at+1, x[at]|128, 0)))
		}
	}
}

// 15.1: a number that is too great, or in a longer form, makes no state, in each of its three places; nor does a machine with more about it, in the bytes that are its own.
func TestRightSumOfOtherNumbers(t *testing.T) {
	m, e := mach.Encode(small()), mach.PutEntry(nil, row(1)[0])
	reads(t, summed(slices.Concat(num(1), text(m), num(1), e)))
	for _, long := range [][]byte{{0x81, 0}, {0x81, 0x80, 0}, bytes.Repeat([]byte{0xff}, 9), bytes.Repeat([]byte{0xff}, 12), {0x81}, {0x80}} {
		refused(t, summed(slices.Concat(long, text(m), num(1), e)), "At")
		refused(t, summed(slices.Concat(num(1), text(m), long, e)), "how many Rest")
	}
	for _, long := range [][]byte{{byte(len(m)) | 128, 0}, {byte(len(m)) | 128, 0x80, 0}, num(len(m) + 1), num(len(m) - 1), num(1000), num(highest), num(0)} {
		refused(t, summed(slices.Concat(num(1), long, m, num(1), e)), "the machine's length")
	}
	for _, form := range [][]byte{nil, {0}, m[:len(m)-1], m[1:], append(bytes.Clone(m), 0), append([]byte{0}, m...), slices.Concat(m, m), text(m), summed(m)} {
		refused(t, summed(slices.Concat(num(1), text(form), num(1), e)), "no machine")
	}
	for _, n := range []int{0, 2, 3, 63, 64, 65, 128, highest} {
		refused(t, summed(slices.Concat(num(1), text(m), num(n), e)), "as many entries as there are not")
	}
	refused(t, summed(slices.Concat(num(1), m, num(1), e)), "a machine that is not as Bytes")
	refused(t, summed(slices.Concat(text(m), num(1), num(1), e)), "a machine ahead of At")
	refused(t, summed(slices.Concat(num(1), num(1), e, text(m))), "Rest ahead of the machine")
	refused(t, summed(slices.Concat(num(1), text(m), num(1), text(e))), "an entry as Bytes")
}

// 15.1: one state's bytes have one sum, at their head, the lowest byte first.
func TestOtherSums(t *testing.T) {
	for _, s := range well() {
		x := encodeBySentence(s)
		right := binary.LittleEndian.Uint32(x)
		for _, c := range []uint32{0, 1, math.MaxUint32, ^right, right + 1, right - 1, binary.BigEndian.Uint32(x), crc32.ChecksumIEEE(x), crc32.Checksum(x[4:], crc32.MakeTable(crc32.Castagnoli))} {
			refused(t, append(binary.LittleEndian.AppendUint32(nil, c), x[4:]...), "another sum")
		}
		refused(t, slices.Concat(x[4:], x[:4]), "the sum behind")
		refused(t, x[4:], "no sum")
		refused(t, slices.Concat(encodeBySentence(api.State{At: 77})[:4], x[4:]), "another one's sum")
	}
}

// 15.1: of all short bytes, as they are and with a right sum, those of a state alone are read; and of all short ones behind an At, and behind a machine.
func TestShortBytes(t *testing.T) {
	few := []byte{0, 1, 2, 5, 0x80, 0xff}
	zero := append([]byte{0}, text(mach.Encode(api.Machine{}))...)
	all := [][]byte{nil}
	for range 7 {
		var longer [][]byte
		for _, x := range all {
			reads(t, x)
			reads(t, summed(x))
			reads(t, summed(slices.Concat([]byte{0x81, 2, 5}, x)))
			reads(t, summed(append(bytes.Clone(zero), x...)))
			for _, c := range few {
				longer = append(longer, append(bytes.Clone(x), c))
			}
		}
		all = longer
	}
}

// 15.1, 15.4: what is long is written in time, and read as none.
func TestLong(t *testing.T) {
	s := api.State{At: 1, Rest: slices.Repeat(row(64), 2000)}
	for i := range 1 << 17 {
		s.Machine.Table = append(s.Machine.Table, api.Last{Sess: i, Seq: i})
	}
	x := blob.Encode(s)
	if got := binary.LittleEndian.Uint32(x); got != crc32.ChecksumIEEE(x[4:]) || !bytes.HasPrefix(x[4:], append(num(1), text(mach.Encode(s.Machine))...)) {
		t.Errorf("%d bytes", len(x))
	}
	refused(t, x, "long")
	for _, c := range []byte{0, 1, 0x7f, 0x80, 0xff} {
		long := slices.Repeat([]byte{c}, 1<<20)
		refused(t, long, "long")
		refused(t, summed(long), "long")
		refused(t, append(encodeBySentence(api.State{}), long...), "long")
		refused(t, summed(append(bodyOf(api.State{Rest: row(1)}), long...)), "long")
		refused(t, summed(append(num(5), text(long)...)), "long")
	}
}

// 15.1, 15.4: whatever the bytes are, as they are and with a right sum, Decode answers by its sentence, and no call panics.
func FuzzDecode(f *testing.F) {
	for _, s := range slices.Concat(well(), ill()) {
		f.Add(encodeBySentence(s))
		f.Add(bodyOf(s))
	}
	f.Fuzz(func(t *testing.T, x []byte) {
		reads(t, x)
		reads(t, summed(x))
		reads(t, encodeBySentence(api.State{At: len(x), Rest: row(len(x) % 70)}))
	})
}

// 15.1, 15.4: whatever the state is, Encode answers by its sentence, and what that is read as is it, if it is within its bounds.
func FuzzEncode(f *testing.F) {
	for i, s := range well() {
		f.Add(s.At, mach.Encode(s.Machine), i, i, 3*i, b("some bytes"))
		f.Add(-s.At, b("no machine"), top+i, top-i, 200-i, make([]byte, i))
	}
	f.Fuzz(func(t *testing.T, at int, form []byte, sess, who, n int, x []byte) {
		m, _ := mach.Decode(form)
		e := ent(sess, who, api.Cmd{Kind: sess, Who: who, Key: x, Val: form, Old: x})
		s := api.State{At: at, Machine: m, Rest: slices.Repeat([]api.Entry{e}, int(uint(n)%130))}
		got := blob.Encode(s)
		if !bytes.Equal(got, encodeBySentence(s)) {
			t.Fatalf("%s: %x", told(s), got)
		}
		reads(t, got)
	})
}
