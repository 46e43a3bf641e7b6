package disk_test

import (
	"bytes"
	"encoding/binary"
	"fmt"
	"hash/crc32"
	"math"
	"slices"
	"testing"

	"hocket/api"
	"hocket/disk"
)

// high is the greatest number of a slot.
const high = 1 << 40

// rec is a record.
func rec(inc, prom, inst int) api.Record {
	return api.Record{Inc: inc, Prom: prom, Inst: inst}
}

// told is a disk as a text, in which nil is an empty list.
func told(d api.Disk) string { return fmt.Sprintf("%x %x", d.A, d.B) }

// summed is x, and its sum ahead of it.
func summed(x []byte) []byte {
	return append(binary.LittleEndian.AppendUint32(nil, crc32.ChecksumIEEE(x)), x...)
}

// numbers are numbers one behind the other, each in its one form.
func numbers(l ...int) []byte {
	var b []byte
	for _, n := range l {
		b = binary.AppendUvarint(b, uint64(n))
	}
	return b
}

// held is the nearest number from 0 to 2^40.
func held(n int) int {
	if n < 0 {
		return 0
	}
	if n > high {
		return high
	}
	return n
}

// slotBySentence is what Slot answers, word by word of promise 13.1.
func slotBySentence(n int, r api.Record) []byte {
	return summed(numbers(held(n), held(r.Inc), held(r.Prom), held(r.Inst)))
}

// rightSlot answers of which n and record x is the Slot, if it is one of any: its numbers are read as they may stand there, and it is held to be what is written of them.
func rightSlot(x []byte) (n int, r api.Record, ok bool) {
	if len(x) < 4 {
		return 0, api.Record{}, false
	}
	var l [4]int
	rest := x[4:]
	for i := range l {
		u, size := binary.Uvarint(rest)
		if size <= 0 || u > high {
			return 0, api.Record{}, false
		}
		l[i], rest = int(u), rest[size:]
	}
	r = rec(l[1], l[2], l[3])
	if !bytes.Equal(slotBySentence(l[0], r), x) {
		return 0, api.Record{}, false
	}
	return l[0], r, true
}

// taken is which slot Read takes, word by word of promise 13.1: "A", "B", or none; with its n and record.
func taken(d api.Disk) (which string, n int, r api.Record) {
	an, ar, aOk := rightSlot(d.A)
	bn, br, bOk := rightSlot(d.B)
	switch {
	case aOk && bOk && bn > an:
		return "B", bn, br
	case aOk:
		return "A", an, ar
	case bOk:
		return "B", bn, br
	}
	return "", 0, api.Record{}
}

// writeBySentence is what Write answers, word by word of promise 13.1.
func writeBySentence(d api.Disk, r api.Record, cut int) api.Disk {
	which, n, _ := taken(d)
	next := slotBySentence(1, r)
	if which != "" {
		next = slotBySentence(n+1, r)
	}
	if cut >= 0 && cut <= len(next) {
		next = next[:cut]
	}
	if which == "A" {
		return api.Disk{A: d.A, B: next}
	}
	return api.Disk{A: next, B: d.B}
}

// reads ends the test at a disk that Read answers otherwise than its sentence.
func reads(t *testing.T, d api.Disk) {
	t.Helper()
	which, _, want := taken(d)
	if got, ok := disk.Read(d); got != want || ok != (which != "") {
		t.Fatalf("%s is read as %v, %v, not %v of %q", told(d), got, ok, want, which)
	}
}

// writes ends the test at a disk into which Write writes otherwise than its sentence.
func writes(t *testing.T, d api.Disk, r api.Record, cut int) {
	t.Helper()
	if got, want := disk.Write(d, r, cut), writeBySentence(d, r, cut); told(got) != told(want) {
		t.Fatalf("%v, cut at %d, in %s: %s, not %s", r, cut, told(d), told(got), told(want))
	}
}

// refused ends the test at bytes that are read, in whichever slot, or of which more is told than a false.
func refused(t *testing.T, x []byte, why string) {
	t.Helper()
	for _, d := range []api.Disk{{A: x}, {B: x}, {A: x, B: x}} {
		if got, ok := disk.Read(d); ok || got != (api.Record{}) {
			t.Fatalf("%s: %s is read as %v, %v", why, told(d), got, ok)
		}
	}
}

// numbersAbout are numbers about each bound of a slot, and each length of a number.
func numbersAbout() []int {
	l := []int{math.MinInt, math.MinInt + 1, -high, -300, -2, -1, 300, 1 << 41, 1 << 62, 1<<62 + 1, math.MaxInt - 1, math.MaxInt, 3 << 40}
	for i := range 42 {
		l = append(l, 1<<i-1, 1<<i, 1<<i+1)
	}
	return l
}

// slots are bytes of slots: right ones, and such as are not.
func slots() [][]byte {
	l := [][]byte{nil, {}, {0}, {0, 0, 0, 0}, summed(nil), summed([]byte{0}), []byte("no slot"), bytes.Repeat([]byte{0xff}, 30)}
	for _, n := range []int{0, 1, 2, 3, 127, 128, 300, high - 1, high} {
		right := slotBySentence(n, rec(n+1, 5, 300))
		turned, cut := bytes.Clone(right), right[:len(right)-1]
		turned[len(turned)-1] ^= 1
		l = append(l, right, slotBySentence(n, rec(7, n, high)), turned, cut, append(bytes.Clone(right), 0))
	}
	return append(l, summed(numbers(high+1, 1, 1, 1)), summed(numbers(1, high+1, 1, 1)), summed(numbers(1, 1, 1)), summed([]byte{0x81, 0, 1, 1, 1}))
}

// 13.1: slots that are known.
func TestKnownSlots(t *testing.T) {
	for _, x := range []struct {
		n    int
		r    api.Record
		want []byte
	}{
		{0, rec(0, 0, 0), []byte{0x1c, 0xdf, 0x44, 0x21, 0, 0, 0, 0}},
		{1, rec(1, 0, 0), []byte{0x4e, 0xd2, 0x3a, 0x98, 1, 1, 0, 0}},
		{2, rec(1, 300, 8), []byte{0xac, 0x8d, 0xd1, 0xe8, 2, 1, 0xac, 2, 8}},
		{300, rec(1, 2, high), []byte{0x6a, 0x0a, 0xfa, 0x86, 0xac, 2, 1, 2, 0x80, 0x80, 0x80, 0x80, 0x80, 0x20}},
	} {
		if got := disk.Slot(x.n, x.r); !bytes.Equal(got, x.want) {
			t.Errorf("Slot(%d, %v) is %x, not %x", x.n, x.r, got, x.want)
		}
		if got, ok := disk.Read(api.Disk{A: x.want}); !ok || got != x.r {
			t.Errorf("%x is read as %v, %v", x.want, got, ok)
		}
	}
}

// 13.1: a slot is what its sentence says, whatever each of its four numbers is, each held to 0 to 2^40; and it is read so.
func TestSlotBySentence(t *testing.T) {
	for _, n := range numbersAbout() {
		for i, l := range [][4]int{{n, 1, 2, 3}, {1, n, 2, 3}, {1, 2, n, 3}, {1, 2, 3, n}, {n, n, n, n}, {-n, n, 0, high}} {
			r := rec(l[1], l[2], l[3])
			got, want := disk.Slot(l[0], r), slotBySentence(l[0], r)
			if !bytes.Equal(got, want) {
				t.Errorf("%d: Slot(%d, %v) is %x, not %x", i, l[0], r, got, want)
			}
			near := rec(held(r.Inc), held(r.Prom), held(r.Inst))
			for _, d := range []api.Disk{{A: got}, {B: got}, {A: got, B: got}} {
				if read, ok := disk.Read(d); !ok || read != near {
					t.Errorf("%s is read as %v, %v, not %v", told(d), read, ok, near)
				}
			}
		}
	}
	if got, want := disk.Slot(-1, rec(-5, 1<<41, math.MinInt)), disk.Slot(0, rec(0, high, 0)); !bytes.Equal(got, want) {
		t.Errorf("%x, not %x", got, want)
	}
	if bytes.Equal(disk.Slot(high, rec(0, 0, 0)), disk.Slot(high-1, rec(0, 0, 0))) {
		t.Error("2^40 is held to less")
	}
}

// 13.1: of what Read answers, known ones: none, one slot, both, the greater n, and A where they are alike.
func TestKnownReads(t *testing.T) {
	one, two := rec(1, 2, 3), rec(4, 5, 6)
	for i, x := range []struct {
		d    api.Disk
		want api.Record
		ok   bool
	}{
		{api.Disk{}, api.Record{}, false},
		{api.Disk{A: []byte{}, B: []byte{}}, api.Record{}, false},
		{api.Disk{A: disk.Slot(1, one)}, one, true},
		{api.Disk{B: disk.Slot(1, one)}, one, true},
		{api.Disk{A: disk.Slot(0, one)}, one, true},
		{api.Disk{B: disk.Slot(0, one)}, one, true},
		{api.Disk{A: disk.Slot(0, rec(0, 0, 0))}, rec(0, 0, 0), true},
		{api.Disk{A: disk.Slot(1, one), B: disk.Slot(2, two)}, two, true},
		{api.Disk{A: disk.Slot(2, one), B: disk.Slot(1, two)}, one, true},
		{api.Disk{A: disk.Slot(0, one), B: disk.Slot(1, two)}, two, true},
		{api.Disk{A: disk.Slot(1, one), B: disk.Slot(0, two)}, one, true},
		{api.Disk{A: disk.Slot(127, one), B: disk.Slot(128, two)}, two, true},
		{api.Disk{A: disk.Slot(256, one), B: disk.Slot(255, two)}, one, true},
		{api.Disk{A: disk.Slot(high-1, one), B: disk.Slot(high, two)}, two, true},
		{api.Disk{A: disk.Slot(7, one), B: disk.Slot(7, two)}, one, true},
		{api.Disk{A: disk.Slot(7, two), B: disk.Slot(7, one)}, two, true},
		{api.Disk{A: disk.Slot(0, two), B: disk.Slot(0, one)}, two, true},
		{api.Disk{A: disk.Slot(high, two), B: disk.Slot(high+1, one)}, two, true},
		{api.Disk{A: disk.Slot(9, one)[:7], B: disk.Slot(1, two)}, two, true},
		{api.Disk{A: disk.Slot(1, one), B: disk.Slot(9, two)[:7]}, one, true},
		{api.Disk{A: disk.Slot(9, one)[:7], B: disk.Slot(0, two)}, two, true},
		{api.Disk{A: disk.Slot(9, one)[:7], B: disk.Slot(9, two)[:7]}, api.Record{}, false},
	} {
		if got, ok := disk.Read(x.d); ok != x.ok || got != x.want {
			t.Errorf("%d: %s is read as %v, %v", i, told(x.d), got, ok)
		}
	}
}

// 13.1: known writes: which slot is written, with which n, and how much of it; the other one stays.
func TestKnownWrites(t *testing.T) {
	one, two, three := rec(1, 2, 3), rec(4, 5, 6), rec(7, 8, 9)
	bad := []byte("no slot, but longer than one")
	for i, x := range []struct {
		d    api.Disk
		cut  int
		want api.Disk
	}{
		{api.Disk{}, -1, api.Disk{A: disk.Slot(1, three)}},
		{api.Disk{A: bad, B: bad}, -1, api.Disk{A: disk.Slot(1, three), B: bad}},
		{api.Disk{A: bad, B: bad}, 0, api.Disk{B: bad}},
		{api.Disk{A: bad, B: bad}, 5, api.Disk{A: disk.Slot(1, three)[:5], B: bad}},
		{api.Disk{A: disk.Slot(1, one)}, -1, api.Disk{A: disk.Slot(1, one), B: disk.Slot(2, three)}},
		{api.Disk{A: disk.Slot(0, one)}, -1, api.Disk{A: disk.Slot(0, one), B: disk.Slot(1, three)}},
		{api.Disk{B: disk.Slot(0, one)}, -1, api.Disk{A: disk.Slot(1, three), B: disk.Slot(0, one)}},
		{api.Disk{A: disk.Slot(1, one), B: bad}, -1, api.Disk{A: disk.Slot(1, one), B: disk.Slot(2, three)}},
		{api.Disk{A: bad, B: disk.Slot(7, one)}, -1, api.Disk{A: disk.Slot(8, three), B: disk.Slot(7, one)}},
		{api.Disk{A: disk.Slot(3, one), B: disk.Slot(2, two)}, -1, api.Disk{A: disk.Slot(3, one), B: disk.Slot(4, three)}},
		{api.Disk{A: disk.Slot(3, one), B: disk.Slot(4, two)}, -1, api.Disk{A: disk.Slot(5, three), B: disk.Slot(4, two)}},
		{api.Disk{A: disk.Slot(3, one), B: disk.Slot(90, two)}, -1, api.Disk{A: disk.Slot(91, three), B: disk.Slot(90, two)}},
		{api.Disk{A: disk.Slot(3, one), B: disk.Slot(3, two)}, -1, api.Disk{A: disk.Slot(3, one), B: disk.Slot(4, three)}},
		{api.Disk{A: disk.Slot(3, one), B: disk.Slot(2, two)}, 0, api.Disk{A: disk.Slot(3, one)}},
		{api.Disk{A: disk.Slot(3, one), B: disk.Slot(2, two)}, 1, api.Disk{A: disk.Slot(3, one), B: disk.Slot(4, three)[:1]}},
		{api.Disk{A: disk.Slot(3, one), B: disk.Slot(2, two)}, 7, api.Disk{A: disk.Slot(3, one), B: disk.Slot(4, three)[:7]}},
		{api.Disk{A: disk.Slot(3, one), B: disk.Slot(2, two)}, 8, api.Disk{A: disk.Slot(3, one), B: disk.Slot(4, three)}},
		{api.Disk{A: disk.Slot(3, one), B: disk.Slot(2, two)}, 9, api.Disk{A: disk.Slot(3, one), B: disk.Slot(4, three)}},
		{api.Disk{A: disk.Slot(3, one), B: disk.Slot(2, two)}, math.MaxInt, api.Disk{A: disk.Slot(3, one), B: disk.Slot(4, three)}},
		{api.Disk{A: disk.Slot(3, one), B: disk.Slot(2, two)}, math.MinInt, api.Disk{A: disk.Slot(3, one), B: disk.Slot(4, three)}},
		{api.Disk{A: disk.Slot(high-1, one)}, -1, api.Disk{A: disk.Slot(high-1, one), B: disk.Slot(high, three)}},
		{api.Disk{A: disk.Slot(high, one)}, -1, api.Disk{A: disk.Slot(high, one), B: disk.Slot(high, three)}},
		{api.Disk{B: disk.Slot(high, one)}, -1, api.Disk{A: disk.Slot(high, three), B: disk.Slot(high, one)}},
	} {
		if got := disk.Write(x.d, three, x.cut); told(got) != told(x.want) {
			t.Errorf("%d: %s, not %s", i, told(got), told(x.want))
		}
	}
}

// 13.1: whatever stands in the two slots, Read and Write answer what their sentences say, at each cut.
func TestEachTwoSlots(t *testing.T) {
	for _, a := range slots() {
		for _, b := range slots() {
			d := api.Disk{A: a, B: b}
			reads(t, d)
			for cut := -2; cut < 24; cut++ {
				writes(t, d, rec(300, 5, high), cut)
			}
			for _, r := range []api.Record{{}, rec(-1, high+1, math.MinInt), rec(math.MaxInt, 127, 128)} {
				for _, cut := range []int{math.MinInt, -1, 0, 1, 8, 9, 10, 28, math.MaxInt} {
					writes(t, d, r, cut)
				}
			}
		}
	}
}

// 13.1: writes go into the slots by turns, each with the next n, and each is read.
func TestByTurns(t *testing.T) {
	var d api.Disk
	for n := 1; n <= 1000; n++ {
		r := rec(n, 3*n, n/2)
		was := d
		d = disk.Write(d, r, -1)
		want := api.Disk{A: disk.Slot(n, r), B: was.B}
		if n%2 == 0 {
			want = api.Disk{A: was.A, B: disk.Slot(n, r)}
		}
		if told(d) != told(want) {
			t.Fatalf("%d: %s, not %s", n, told(d), told(want))
		}
		if got, ok := disk.Read(d); !ok || got != r {
			t.Fatalf("%d: %v, %v", n, got, ok)
		}
	}
}

// 13.1: the same record is written, too, as often as it is asked.
func TestSameAgain(t *testing.T) {
	r := rec(1, 8, 8)
	d := disk.Write(disk.Write(disk.Write(api.Disk{}, r, -1), r, -1), r, -1)
	if want := (api.Disk{A: disk.Slot(3, r), B: disk.Slot(2, r)}); told(d) != told(want) {
		t.Errorf("%s, not %s", told(d), told(want))
	}
}

// 13.1, W6: a slot is no slot with any bit turned, nor any two.
func TestTurnedBits(t *testing.T) {
	for _, x := range [][]byte{disk.Slot(0, rec(0, 0, 0)), disk.Slot(1, rec(1, 0, 0)), disk.Slot(300, rec(1, 2, high)), disk.Slot(high, rec(high, high, high))} {
		for i := range 8 * len(x) {
			x[i/8] ^= 1 << (i % 8)
			refused(t, x, "a bit is turned")
			for j := range i {
				x[j/8] ^= 1 << (j % 8)
				refused(t, x, "two bits are turned")
				x[j/8] ^= 1 << (j % 8)
			}
			x[i/8] ^= 1 << (i % 8)
		}
	}
}

// 13.1, W6: bytes that are cut off at either end, or have more about them, are no slot.
func TestCutOff(t *testing.T) {
	for _, n := range []int{0, 1, 2, 127, 128, 300, high} {
		x := disk.Slot(n, rec(n, 0, 300))
		for cut := range x {
			refused(t, x[:cut], "cut behind")
			refused(t, x[cut+1:], "cut ahead")
		}
		for _, more := range [][]byte{{0}, {1}, {0x80}, {0xff}, {0, 0, 0, 0}, x} {
			refused(t, slices.Concat(x, more), "more behind")
			refused(t, slices.Concat(more, x), "more ahead")
		}
	}
}

// 13.1, W6: a right sum makes no slot of what is none: a number above 2^40, or in a longer form, too few numbers, or too many.
func TestRightSum(t *testing.T) {
	for i := range 4 {
		for _, n := range []int{high + 1, high + 127, 1 << 41, 1<<62 - 1, 1 << 62, math.MaxInt} {
			l := []int{1, 2, 3, 4}
			l[i] = n
			refused(t, summed(numbers(l...)), "a number above 2^40")
		}
		for _, long := range [][]byte{{0x80, 0}, {0x81, 0}, {0x81, 0x80, 0}, {0xac, 0x82, 0}, {0x80, 0x80, 0x80, 0x80, 0x80, 0xa0, 0}} {
			refused(t, summed(slices.Concat(numbers(make([]int, i)...), long, numbers(make([]int, 3-i)...))), "a longer form")
		}
		refused(t, summed(slices.Concat(numbers(make([]int, i)...), []byte{0x80})), "a number that is cut off")
		refused(t, summed(slices.Concat(numbers(make([]int, i)...), bytes.Repeat([]byte{0xff}, 9), numbers(make([]int, 3-i)...))), "no number")
	}
	for n := range 12 {
		if n != 4 {
			refused(t, summed(numbers(slices.Repeat([]int{1}, n)...)), "not four numbers")
		}
	}
	refused(t, summed(disk.Slot(1, rec(1, 1, 1))), "a slot's sum, twice")
}

// 13.1, W6: one slot's bytes have one sum, at their head, the lowest byte first.
func TestOtherSums(t *testing.T) {
	for _, x := range [][]byte{disk.Slot(1, rec(1, 0, 0)), disk.Slot(300, rec(1, 2, high))} {
		right := binary.LittleEndian.Uint32(x)
		for _, c := range []uint32{0, 1, math.MaxUint32, ^right, right + 1, right - 1, binary.BigEndian.Uint32(x), crc32.ChecksumIEEE(x), crc32.Checksum(x[4:], crc32.MakeTable(crc32.Castagnoli))} {
			refused(t, append(binary.LittleEndian.AppendUint32(nil, c), x[4:]...), "another sum")
		}
		refused(t, slices.Concat(x[4:], x[:4]), "the sum behind")
		refused(t, x[4:], "no sum")
		refused(t, slices.Concat(disk.Slot(9, rec(9, 9, 9))[:4], x[4:]), "another one's sum")
	}
}

// 13.1, W6: of all short bytes, with a right sum, those of a slot alone are read.
func TestShortBytes(t *testing.T) {
	few := []byte{0, 1, 0x20, 0x7f, 0x80, 0x81, 0xff}
	all := [][]byte{nil}
	for range 6 {
		var longer [][]byte
		for _, x := range all {
			reads(t, api.Disk{A: x})
			reads(t, api.Disk{B: summed(x), A: x})
			for _, c := range few {
				longer = append(longer, append(bytes.Clone(x), c))
			}
		}
		all = longer
	}
}
