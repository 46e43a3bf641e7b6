package seal_test

import (
	"bytes"
	"encoding/binary"
	"hash/crc32"
	"testing"

	"hocket/seal"
)

// some answers n bytes that look like no rule, the same ones each time.
func some(n int) []byte {
	b := make([]byte, n)
	x := uint32(2463534242)
	for i := range b {
		x ^= x << 13
		x ^= x >> 17
		x ^= x << 5
		b[i] = byte(x >> 8)
	}
	return b
}

// summed is what Lay answers, with a sum of another make.
func summed(x []byte) []byte {
	return append(binary.LittleEndian.AppendUint32(nil, crc32.ChecksumIEEE(x)), x...)
}

// refused tells of bytes that Lift takes, or of which it answers more than a false.
func refused(t *testing.T, x []byte) {
	t.Helper()
	if got, ok := seal.Lift(x); ok || len(got) > 0 {
		t.Errorf("%x is lifted as %x, %v", x, got, ok)
	}
}

// Sums that are known, the lowest byte first.
func TestKnown(t *testing.T) {
	for _, x := range []struct{ body, want []byte }{
		{nil, []byte{0, 0, 0, 0}},
		{[]byte{}, []byte{0, 0, 0, 0}},
		{[]byte{0}, []byte{0x8d, 0xef, 0x02, 0xd2, 0}},
		{[]byte("123456789"), append([]byte{0x26, 0x39, 0xf4, 0xcb}, "123456789"...)},
	} {
		if got := seal.Lay(x.body); !bytes.Equal(got, x.want) {
			t.Errorf("%x, not %x", got, x.want)
		}
		if got, ok := seal.Lift(x.want); !ok || !bytes.Equal(got, x.body) {
			t.Errorf("%x is lifted as %x, %v", x.want, got, ok)
		}
	}
}

// Whatever the length is, bytes are lifted as they were laid.
func TestEachLength(t *testing.T) {
	for n := range 300 {
		body := some(n)
		x := seal.Lay(body)
		if !bytes.Equal(x, summed(body)) {
			t.Errorf("of %d bytes %x", n, x)
		}
		if got, ok := seal.Lift(x); !ok || !bytes.Equal(got, body) {
			t.Errorf("of %d bytes %x, %v", n, got, ok)
		}
	}
}

// W6: a bit that is turned, wherever, bytes that are cut off at either end, and such as have more about them, are told.
func TestTold(t *testing.T) {
	for n := range 40 {
		x := seal.Lay(some(n))
		for bit := range 8 * len(x) {
			x[bit/8] ^= 1 << (bit % 8)
			refused(t, x)
			x[bit/8] ^= 1 << (bit % 8)
		}
		for cut := range x {
			refused(t, x[:cut])
		}
		if n > 0 {
			refused(t, x[1:])
			refused(t, append(bytes.Clone(x), 0))
			refused(t, append([]byte{0}, x...))
		}
	}
	refused(t, nil)
	refused(t, []byte{0, 0, 0})
}

// Rule 3: what is handed in stays, and so does the room behind it, which does not count; what is answered is new.
func TestMemory(t *testing.T) {
	room := some(64)
	was := bytes.Clone(room)
	laid, other := seal.Lay(room[:20]), seal.Lay(room[:20])
	clear(other[:cap(other)])
	if !bytes.Equal(room, was) || !bytes.Equal(laid, summed(was[:20])) {
		t.Error("Lay answers memory that is another's")
	}
	in := append(bytes.Clone(laid), 1, 2, 3)[:len(laid)]
	one, _ := seal.Lift(in)
	two, ok := seal.Lift(in)
	clear(one[:cap(one)])
	_ = append(one, 9, 9, 9)
	if !bytes.Equal(in[:len(in)+3], append(bytes.Clone(laid), 1, 2, 3)) {
		t.Error("Lift answers what is handed in")
	}
	clear(in)
	if !ok || !bytes.Equal(two, was[:20]) {
		t.Errorf("%x, %v", two, ok)
	}
}

// Whatever the bytes are, those alone are lifted that Lay answers.
func FuzzLift(f *testing.F) {
	f.Add([]byte(nil))
	f.Add(seal.Lay([]byte("abc")))
	f.Fuzz(func(t *testing.T, x []byte) {
		if got, ok := seal.Lift(x); ok && !bytes.Equal(summed(got), x) || !ok && len(got) > 0 {
			t.Errorf("%x is lifted as %x, %v", x, got, ok)
		}
		if got, ok := seal.Lift(seal.Lay(x)); !ok || !bytes.Equal(got, x) {
			t.Errorf("%x is lifted as %x, %v", x, got, ok)
		}
	})
}
