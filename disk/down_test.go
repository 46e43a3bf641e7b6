package disk_test

import (
	"math"
	"slices"
	"testing"

	"hocket/api"
	"hocket/disk"
)

// downs ends the test where one who goes down while r is written into d, at whatever byte, has neither what was there nor what is new.
func downs(t *testing.T, d api.Disk, r api.Record) {
	t.Helper()
	was, had := disk.Read(d)
	whole := disk.Write(d, r, -1)
	n, _ := grown(d, whole)
	for cut := range n + 3 {
		after := disk.Write(d, r, cut)
		got, ok := disk.Read(after)
		if cut >= n && (!ok || got != r) {
			t.Fatalf("%v is written whole into %s, but %v, %v is there", r, told(d), got, ok)
		}
		if cut < n && (ok != had || got != was) {
			t.Fatalf("%v is cut at %d in %s: %v, %v is there, not %v, %v", r, cut, told(d), got, ok, was, had)
		}
	}
}

// grown is how many bytes are in the slot that is another in b than in a, and if it is B.
func grown(a, b api.Disk) (n int, inB bool) {
	if string(a.A) != string(b.A) {
		return len(b.A), false
	}
	return len(b.B), true
}

// 13.2, W4: whatever is in the two slots, and at whatever byte the writing ends, what was there, or what is new, is there.
func TestWasOrNew(t *testing.T) {
	for _, a := range slots() {
		for _, b := range slots() {
			d := api.Disk{A: a, B: b}
			if _, n, _ := taken(d); n < high {
				downs(t, d, rec(300, 4, high))
				downs(t, d, rec(0, 0, 0))
			}
		}
	}
}

// 13.2, W4: of a disk whose n can't rise any more what was there, or what is new, is there still.
func TestWasOrNewAtTheEnd(t *testing.T) {
	was, r := rec(1, 2, 3), rec(4, 5, 6)
	full := disk.Slot(high, was)
	for _, other := range slots() {
		for _, d := range []api.Disk{{A: full, B: other}, {A: other, B: full}} {
			had, ok := disk.Read(d)
			if !ok {
				t.Fatalf("%s has none", told(d))
			}
			for cut := -1; cut < 20; cut++ {
				if got, ok := disk.Read(disk.Write(d, r, cut)); !ok || got != had && got != r {
					t.Fatalf("cut at %d in %s: %v, %v", cut, told(d), got, ok)
				}
			}
		}
	}
}

// 13.2, W4: one who goes down often, at any byte, has always what was written whole last; what is cut leaves no trace in what comes behind it.
func TestDownOften(t *testing.T) {
	x := uint32(2463534242)
	next := func(n int) int {
		x ^= x << 13
		x ^= x >> 17
		x ^= x << 5
		return int(x>>3) % n
	}
	for range 60 {
		var d api.Disk
		var last api.Record
		whole := 0
		for i := range 200 {
			r := rec(i, next(1<<20), next(1<<30)<<next(10))
			size := len(disk.Slot(whole+1, r))
			cut := next(2*size) - next(5)
			d = disk.Write(d, r, cut)
			if cut < 0 || cut >= size {
				last, whole = r, whole+1
			}
			if got, ok := disk.Read(d); ok != (whole > 0) || got != last {
				t.Fatalf("%d, cut at %d: %s is read as %v, %v, not %v", i, cut, told(d), got, ok, last)
			}
		}
	}
}

// 13.2, W4: bytes that are lost in the slot that is being written, or turned in it, do not touch what is in the other.
func TestOtherSlotIsEnough(t *testing.T) {
	was, r := rec(1, 2, 3), rec(4, 5, 6)
	for n := range 2 {
		d := disk.Write(api.Disk{}, was, -1)
		if n == 1 {
			d = disk.Write(disk.Write(api.Disk{}, rec(9, 9, 9), -1), was, -1)
		}
		after := disk.Write(d, r, -1)
		_, inB := grown(d, after)
		if inB != (n == 0) {
			t.Errorf("%d: it is written into the slot that holds the last", n)
		}
		written := after.A
		if inB {
			written = after.B
		}
		for i := range 8 * len(written) {
			written[i/8] ^= 1 << (i % 8)
			if got, ok := disk.Read(after); !ok || got != was {
				t.Errorf("%d, bit %d: %v, %v", n, i, got, ok)
			}
			written[i/8] ^= 1 << (i % 8)
		}
		if got, ok := disk.Read(after); !ok || got != r {
			t.Errorf("%d: %v, %v", n, got, ok)
		}
	}
}

// 13.3: whatever the numbers are, no call panics, and each answers by its sentence.
func TestAnyNumbers(t *testing.T) {
	for _, n := range numbersAbout() {
		for _, m := range []int{n, -n, 0, math.MinInt, math.MaxInt} {
			d := api.Disk{A: disk.Slot(n, rec(m, n, n)), B: disk.Slot(m, rec(n, m, m))}
			reads(t, d)
			for _, cut := range []int{n, m, -1, 0, 1, 9} {
				writes(t, d, rec(n, m, n), cut)
				writes(t, api.Disk{}, rec(m, n, m), cut)
			}
		}
	}
}

// 13.3: what is long is no slot, in time, also with a right sum, and it is wiped ahead of being written.
func TestLong(t *testing.T) {
	for _, c := range []byte{0, 1, 0x7f, 0x80, 0xff} {
		long := slices.Repeat([]byte{c}, 1<<20)
		for _, x := range [][]byte{long, summed(long), append(disk.Slot(1, rec(1, 1, 1)), long...)} {
			refused(t, x, "long")
			d := disk.Write(api.Disk{A: x, B: x}, rec(1, 2, 3), -1)
			if string(d.A) != string(disk.Slot(1, rec(1, 2, 3))) || string(d.B) != string(x) {
				t.Errorf("%d bytes, %d bytes", len(d.A), len(d.B))
			}
		}
	}
}

// 13.1 to 13.3: whatever the bytes are, as they are and with a right sum, Read and Write answer by their sentences, what was there, or what is new, is there, and no call panics.
func FuzzDisk(f *testing.F) {
	for i, x := range slots() {
		f.Add(x, slots()[len(slots())-1-i], i, high-i, -i, i)
		f.Add(x, []byte(nil), i, 2*i, 300*i, -1)
	}
	f.Fuzz(func(t *testing.T, a, b []byte, inc, prom, inst, cut int) {
		r := rec(inc, prom, inst)
		for _, d := range []api.Disk{{A: a, B: b}, {A: summed(a), B: b}, {A: a, B: summed(b)}, {A: summed(a), B: summed(b)}, {A: a, B: disk.Slot(cut, r)}, {A: disk.Slot(cut, r), B: b}} {
			reads(t, d)
			writes(t, d, r, cut)
			writes(t, d, r, int(uint(cut)%40))
			if _, n, _ := taken(d); n < high {
				downs(t, d, rec(held(inc), held(prom), held(inst)))
			}
		}
	})
}
