package crcs_test

import (
	"bytes"
	"hash/crc32"
	"testing"

	"hocket/crcs"
)

// some answers n bytes that look like no rule, the same ones each time.
func some(n int) []byte {
	b := make([]byte, n)
	x := uint32(2463534242)
	for i := range b {
		x ^= x << 13
		x ^= x >> 17
		x ^= x << 5
		b[i] = byte(x >> 8)
	}
	return b
}

// corners are values of c at which a step may go wrong.
func corners() []uint32 {
	l := []uint32{0, 1, 0xFE, 0xFF, 0x100, 0x7FFFFFFF, 0x80000000, 0xEDB88320, 0xFFFFFF00, 0xFFFFFFFF}
	for i := range 32 {
		l = append(l, 1<<i, ^uint32(1<<i))
	}
	return l
}

// bySentence is Next, word by word of promise 1.1, with the bits laid side by side.
func bySentence(c uint32, b byte) uint32 {
	var bits [32]bool
	for i := range bits {
		bits[i] = c>>i&1 == 1
		if i < 8 {
			bits[i] = bits[i] != (b>>i&1 == 1)
		}
	}
	for range 8 {
		low := bits[0]
		copy(bits[:], bits[1:])
		bits[31] = false
		for i := range bits {
			bits[i] = bits[i] != (low && uint32(0xEDB88320)>>i&1 == 1)
		}
	}
	n := uint32(0)
	for i, on := range bits {
		if on {
			n |= 1 << i
		}
	}
	return n
}

// 1.1: sums that are known.
func TestSumKnown(t *testing.T) {
	for _, x := range []struct {
		in   string
		want uint32
	}{
		{"", 0},
		{"\x00", 0xD202EF8D},
		{"\x00\x00", 0x41D912FF},
		{"\x00\x00\x00\x00", 0x2144DF1C},
		{"\xff", 0xFF000000},
		{"\xff\xff\xff\xff", 0xFFFFFFFF},
		{"a", 0xE8B7BE43},
		{"abc", 0x352441C2},
		{"123456789", 0xCBF43926},
		{"The quick brown fox jumps over the lazy dog", 0x414FA339},
	} {
		if got := crcs.Sum([]byte(x.in)); got != x.want {
			t.Errorf("Sum(%q) is %08X, not %08X", x.in, got, x.want)
		}
	}
}

// 1.1, rule 1: nil is an empty list.
func TestSumNone(t *testing.T) {
	if crcs.Sum(nil) != 0 || crcs.Sum([]byte{}) != 0 {
		t.Error("a sum of nothing is 0")
	}
}

// 1.1: Sum is that of IEEE 802.3, whatever the length.
func TestSumOfEachLength(t *testing.T) {
	b := some(600)
	for n := range len(b) + 1 {
		if got, want := crcs.Sum(b[:n]), crc32.ChecksumIEEE(b[:n]); got != want {
			t.Fatalf("of %d bytes %08X, not %08X", n, got, want)
		}
	}
	long := some(1 << 20)
	if crcs.Sum(long) != crc32.ChecksumIEEE(long) {
		t.Error("of many bytes")
	}
}

// 1.1: values of Next that are known.
func TestNextKnown(t *testing.T) {
	for _, x := range []struct {
		c    uint32
		b    byte
		want uint32
	}{
		{0, 0, 0},
		{0, 1, 0x77073096},
		{0, 128, 0xEDB88320},
		{0, 255, 0x2D02EF8D},
		{1, 1, 0},
		{128, 0, 0xEDB88320},
		{256, 0, 1},
		{0xFFFFFF00, 0, 0x00FFFFFF},
		{0xFFFFFFFF, 0xFF, 0x00FFFFFF},
		{0xFFFFFFFF, 0, 0x2DFD1072},
	} {
		if got := crcs.Next(x.c, x.b); got != x.want {
			t.Errorf("Next(%08X, %d) is %08X, not %08X", x.c, x.b, got, x.want)
		}
	}
}

// 1.1, 1.3: Next is what its sentence says, of each byte at each corner of c.
func TestNextBySentence(t *testing.T) {
	for _, c := range corners() {
		for b := range 256 {
			if got, want := crcs.Next(c, byte(b)), bySentence(c, byte(b)); got != want {
				t.Fatalf("Next(%08X, %d) is %08X, not %08X", c, b, got, want)
			}
		}
	}
}

// 1.1: Sum goes by Next, from 0xFFFFFFFF, and is turned at the end.
func TestSumIsNext(t *testing.T) {
	c := uint32(0xFFFFFFFF)
	for i, x := range some(300) {
		c = crcs.Next(c, x)
		if got := crcs.Sum(some(300)[:i+1]); got != c^0xFFFFFFFF {
			t.Fatalf("of %d bytes %08X, not %08X", i+1, got, c^0xFFFFFFFF)
		}
	}
}

// 1.2: one bit that is turned gives another sum.
func TestOneBitIsTold(t *testing.T) {
	for _, b := range [][]byte{{0}, {255}, make([]byte, 64), some(1), some(33), some(300)} {
		was := crcs.Sum(b)
		for i := range 8 * len(b) {
			b[i/8] ^= 1 << (i % 8)
			if crcs.Sum(b) == was {
				t.Errorf("of %d bytes bit %d is not told", len(b), i)
			}
			b[i/8] ^= 1 << (i % 8)
		}
	}
}

// 1.2: two bits that are turned give another sum.
func TestTwoBitsAreTold(t *testing.T) {
	b := some(40)
	was := crcs.Sum(b)
	for i := range 8 * len(b) {
		b[i/8] ^= 1 << (i % 8)
		for j := range i {
			b[j/8] ^= 1 << (j % 8)
			if crcs.Sum(b) == was {
				t.Errorf("bits %d and %d are not told", i, j)
			}
			b[j/8] ^= 1 << (j % 8)
		}
		b[i/8] ^= 1 << (i % 8)
	}
}

// 1.2: up to four bytes side by side that are others give another sum.
func TestBytesInARowAreTold(t *testing.T) {
	b := some(60)
	was := crcs.Sum(b)
	for n := 1; n <= 4; n++ {
		for at := range len(b) - n + 1 {
			other := bytes.Clone(b)
			for i, x := range some(n) {
				other[at+i] ^= x | 1
			}
			if crcs.Sum(other) == was {
				t.Errorf("%d bytes at %d are not told", n, at)
			}
		}
	}
}

// 1.2: what begins with noughts, or ends with them, is told from what does not.
func TestNoughtsAreTold(t *testing.T) {
	seen := [3]map[uint32]int{{}, {}, {}}
	for n := range 200 {
		z := make([]byte, n)
		for k, b := range [][]byte{z, append(bytes.Clone(z), "ab"...), append([]byte("ab"), z...)} {
			s := crcs.Sum(b)
			if was, ok := seen[k][s]; ok {
				t.Errorf("%d noughts are as %d", n, was)
			}
			seen[k][s] = n
		}
	}
}

// 1.2: each byte has a sum of its own, and so has each pair.
func TestShortOnesDiffer(t *testing.T) {
	seen := map[uint32]bool{}
	for a := range 256 {
		seen[crcs.Sum([]byte{byte(a)})] = true
		for b := range 256 {
			seen[crcs.Sum([]byte{byte(a), byte(b)})] = true
		}
	}
	if len(seen) != 256+256*256 {
		t.Errorf("%d sums", len(seen))
	}
}

// 1.1, rule 6: the same bytes have the same sum, whatever was asked ahead of it.
func TestNothingIsKept(t *testing.T) {
	b := some(50)
	was := crcs.Sum(b)
	crcs.Sum(some(9))
	crcs.Next(was, 7)
	if crcs.Sum(b) != was || crcs.Sum(bytes.Clone(b)) != was {
		t.Error("another sum of the same bytes")
	}
}

// 1.3, rule 3: what is handed in stays, and so does the room behind it, which does not count.
func TestHandedInStays(t *testing.T) {
	room := some(64)
	was := bytes.Clone(room)
	got := crcs.Sum(room[8:24])
	if !bytes.Equal(room, was) {
		t.Error("what is handed in was changed")
	}
	clear(room[24:])
	if crcs.Sum(room[8:24]) != got {
		t.Error("the room behind it counts")
	}
}

// 1.3: whatever the bytes are, both calls end and answer.
func FuzzSum(f *testing.F) {
	f.Add([]byte(nil), uint32(0), byte(0))
	f.Add([]byte("123456789"), uint32(0xFFFFFFFF), byte(0xFF))
	f.Add(some(200), uint32(0xEDB88320), byte(1))
	f.Fuzz(func(t *testing.T, b []byte, c uint32, x byte) {
		if crcs.Sum(b) != crc32.ChecksumIEEE(b) {
			t.Errorf("Sum of %x", b)
		}
		if crcs.Next(c, x) != bySentence(c, x) {
			t.Errorf("Next of %x, %x", c, x)
		}
	})
}
