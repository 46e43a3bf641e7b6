// Package seal lays the sum of bytes ahead of them, and holds them to it: frames, slots and states are kept so, and what was turned in them is told.
package seal

import (
	"bytes"

	"hocket/crcs"
)

// size is how many bytes a sum takes.
const size = 4

// Lay answers body, and ahead of it its sum.
func Lay(body []byte) []byte {
	return append(sum(body), body...)
}

// Lift answers the bytes of which b is what Lay answers, and whether it is that of any.
func Lift(b []byte) ([]byte, bool) {
	if len(b) < size {
		return nil, false
	}
	head, body := b[:size], b[size:]
	if !bytes.Equal(head, sum(body)) {
		return nil, false
	}
	return bytes.Clone(body), true
}

// sum answers the sum of b as bytes, the lowest first.
func sum(b []byte) []byte {
	c := crcs.Sum(b)
	return []byte{byte(c), byte(c >> 8), byte(c >> 16), byte(c >> 24)}
}
