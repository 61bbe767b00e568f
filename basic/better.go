package basic

import "math/bits"

// Better is whether c * c / e is greater than d * d / f: never, if e is not above 0, and always, if f isn't and e is; c and d below 0 count as 0.
func Better(c, e, d, f int) bool {
	if e <= 0 {
		return false
	}
	if f <= 0 {
		return true
	}
	// Crosswise products keep what quotients would round away.
	return above(squareTimes(c, f), squareTimes(d, e))
}

// squareTimes is x * x * y, the highest word first. Of numbers below 2^63 it
// has less than 189 bits, so that the highest word never overflows.
func squareTimes(x, y int) [3]uint64 {
	u, v := uint64(max(x, 0)), uint64(y)
	high, low := bits.Mul64(u, u)
	carried, last := bits.Mul64(low, v)
	first, middle := bits.Mul64(high, v)
	middle, carry := bits.Add64(middle, carried, 0)
	return [3]uint64{first + carry, middle, last}
}

func above(p, q [3]uint64) bool {
	for i, word := range p {
		if word != q[i] {
			return word > q[i]
		}
	}
	return false
}
