package blob_test

import (
	"bytes"
	"math"
	"testing"

	"hocket/blob"
)

// mostPart is how many bytes a part has at most.
const mostPart = 64

// bytesOf are n bytes, of which none is that of 64 ahead of it.
func bytesOf(n int) []byte {
	x := make([]byte, n)
	for i := range x {
		x[i] = byte(i + i/251)
	}
	return x
}

// partBySentence is what Part answers, word by word of promise 15.2.
func partBySentence(x []byte, at int) ([]byte, bool) {
	if at < 0 || at > len(x)-1 {
		return nil, false
	}
	var part []byte
	for i := at; i < len(x) && len(part) < mostPart; i++ {
		part = append(part, x[i])
	}
	return part, true
}

// parts ends the test at a part that is another than that of the sentence.
func parts(t *testing.T, x []byte, at int) {
	t.Helper()
	got, ok := blob.Part(x, at)
	want, is := partBySentence(x, at)
	if ok != is || !bytes.Equal(got, want) {
		t.Fatalf("of %d bytes from %d on: %x, %v, not %x, %v", len(x), at, got, ok, want, is)
	}
}

// glued are all parts of x, one behind the other, as they are asked for: each from where the one ahead of it ended.
func glued(x []byte) []byte {
	var out []byte
	for {
		part, ok := blob.Part(x, len(out))
		if !ok {
			return out
		}
		out = append(out, part...)
	}
}

// 15.2: parts that are known.
func TestKnownParts(t *testing.T) {
	x := bytesOf(130)
	for _, c := range []struct {
		x    []byte
		at   int
		want []byte
		ok   bool
	}{
		{nil, 0, nil, false}, {nil, 1, nil, false}, {nil, -1, nil, false}, {b(""), 0, nil, false},
		{b("a"), 0, b("a"), true}, {b("a"), 1, nil, false}, {b("a"), -1, nil, false}, {b("abc"), 1, b("bc"), true}, {b("abc"), 2, b("c"), true}, {b("abc"), 3, nil, false}, {b("abc"), 4, nil, false},
		{x, -1, nil, false}, {x, 0, x[:64], true}, {x, 1, x[1:65], true}, {x, 64, x[64:128], true}, {x, 65, x[65:129], true}, {x, 66, x[66:130], true}, {x, 67, x[67:130], true}, {x, 128, x[128:130], true}, {x, 129, x[129:130], true}, {x, 130, nil, false}, {x, 131, nil, false},
		{x[:63], 0, x[:63], true}, {x[:64], 0, x[:64], true}, {x[:65], 0, x[:64], true}, {x[:65], 1, x[1:65], true}, {x[:65], 64, x[64:65], true}, {x[:64], 64, nil, false},
	} {
		if got, ok := blob.Part(c.x, c.at); ok != c.ok || !bytes.Equal(got, c.want) {
			t.Errorf("of %d bytes from %d on: %x, %v", len(c.x), c.at, got, ok)
		}
	}
}

// 15.2: whatever the length is, and wherever a part begins, it is that of the sentence.
func TestEachPart(t *testing.T) {
	for n := range 300 {
		x := bytesOf(n)
		for at := -70; at < n+70; at++ {
			parts(t, x, at)
		}
		if got := glued(x); !bytes.Equal(got, x) {
			t.Errorf("the parts of %d bytes are %x", n, got)
		}
	}
}

// 15.2, 15.4: far from the bytes there is no part, whatever the number.
func TestFarParts(t *testing.T) {
	for _, n := range []int{0, 1, 63, 64, 65, 300} {
		x := bytesOf(n)
		for i := range 63 {
			for d := -66; d <= 66; d++ {
				parts(t, x, 1<<i+d)
				parts(t, x, -(1<<i)+d)
			}
		}
		for d := range 130 {
			parts(t, x, math.MaxInt-d)
			parts(t, x, math.MinInt+d)
		}
	}
}

// 15.2: of what is long a part is taken in time, wherever it begins; it hangs on no byte but those in it.
func TestLongParts(t *testing.T) {
	x := bytesOf(1 << 22)
	if got := glued(x); !bytes.Equal(got, x) {
		t.Error(len(got))
	}
	one := bytesOf(200)
	for at := range one {
		was, _ := blob.Part(one, at)
		for i := range one {
			one[i] ^= 0xff
			got, ok := blob.Part(one, at)
			if in := i >= at && i < at+mostPart; !ok || bytes.Equal(got, was) == in {
				t.Fatalf("from %d on, with another byte at %d: %x", at, i, got)
			}
			one[i] ^= 0xff
		}
	}
}

// 15.2, 15.4: whatever the bytes are, and the number, a part is that of the sentence, all of them are the bytes, and no call panics.
func FuzzPart(f *testing.F) {
	for n := range 200 {
		f.Add(bytesOf(n), n/2)
		f.Add(bytesOf(n), -n)
	}
	f.Add(bytesOf(70), math.MaxInt)
	f.Add(bytesOf(70), math.MinInt)
	f.Fuzz(func(t *testing.T, x []byte, at int) {
		parts(t, x, at)
		for near := len(x) - 66; near < len(x)+3; near++ {
			parts(t, x, near)
		}
		if got := glued(x); !bytes.Equal(got, x) {
			t.Fatalf("the parts of %x are %x", x, got)
		}
	})
}
