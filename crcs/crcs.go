// Package crcs makes sums of bytes, by which bytes that were turned are told.
package crcs

// poly is what a step puts in for a bit that falls out.
const poly = 0xEDB88320

// start is what a sum begins from, and what is turned at its end: so noughts ahead of the bytes count, too.
const start = 0xFFFFFFFF

// Sum answers the sum of b.
func Sum(b []byte) uint32 {
	c := uint32(start)
	for _, x := range b {
		c = Next(c, x)
	}
	return c ^ start
}

// Next answers what c comes to by one byte more.
func Next(c uint32, b byte) uint32 {
	c ^= uint32(b)
	for range 8 {
		c = step(c)
	}
	return c
}

// step takes the lowest bit out of c.
func step(c uint32) uint32 {
	half := c >> 1
	if c&1 == 1 {
		return half ^ poly
	}
	return half
}
