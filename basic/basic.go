// Package basic: see ../../shared/doc/01-basic.md.
package basic

import (
	"math/bits"

	"voxsat/api"
)

// farthest is as far as a shift needs to go: by it every number of 32 bits but 0
// is stopped on the left and down to 0 or -1 on the right, and none overflows 64 bits.
const farthest = 32

// Sat16 is a number of 16 bits.
func Sat16(x int) (int, bool) { return stop(x, api.Min16, api.Max16) }

// Sat32 is a number of 32 bits.
func Sat32(x int) (int, bool) { return stop(x, api.Min32, api.Max32) }

// Add is a + b, of 16 bits.
func Add(a, b int) (int, bool) { return reckon(Sat16, Sat16, sum, a, b) }

// Sub is a - b, of 16 bits.
func Sub(a, b int) (int, bool) { return reckon(Sat16, Sat16, difference, a, b) }

// LAdd is a + b, of 32 bits.
func LAdd(a, b int) (int, bool) { return reckon(Sat32, Sat32, sum, a, b) }

// LSub is a - b, of 32 bits.
func LSub(a, b int) (int, bool) { return reckon(Sat32, Sat32, difference, a, b) }

// Neg is 0 - a, of 16 bits.
func Neg(a int) (int, bool) { return Sub(0, a) }

// Abs is a without its sign, of 16 bits.
func Abs(a int) (int, bool) {
	a, _ = Sat16(a)
	return Sat16(max(a, -a))
}

// Mult is a * b / 2^15, rounded down, of 16 bits.
func Mult(a, b int) (int, bool) {
	return reckon(Sat16, Sat16, func(a, b int) int { return a * b >> 15 }, a, b)
}

// LMult is twice a * b, of 32 bits.
func LMult(a, b int) (int, bool) {
	return reckon(Sat16, Sat32, func(a, b int) int { return 2 * a * b }, a, b)
}

// LMac is acc and twice a * b.
func LMac(acc, a, b int) (int, bool) { return gather(LAdd, acc, a, b) }

// LMsu is acc less twice a * b.
func LMsu(acc, a, b int) (int, bool) { return gather(LSub, acc, a, b) }

// Shl is a moved by n to the left (below 0: to the right), of 16 bits.
func Shl(a, n int) (int, bool) { return shift(Sat16, a, near(n)) }

// Shr is a moved by n to the right, of 16 bits.
func Shr(a, n int) (int, bool) { return shift(Sat16, a, -near(n)) }

// LShl is a moved by n to the left (below 0: to the right), of 32 bits.
func LShl(a, n int) (int, bool) { return shift(Sat32, a, near(n)) }

// LShr is a moved by n to the right, of 32 bits.
func LShr(a, n int) (int, bool) { return shift(Sat32, a, -near(n)) }

// Round is the higher half of a, rounded.
func Round(a int) (int, bool) {
	x, over := LAdd(a, 1<<15)
	return x >> 16, over
}

// Norm is by how many places a can be moved to the left within 32 bits; 0 of 0.
func Norm(a int) int {
	if a == 0 {
		return 0
	}
	a, _ = Sat32(a)
	// A number below 0 has room for as many places as its complement, which is
	// not its negative: -1 may go as far as -2^31.
	if a < 0 {
		a = ^a
	}
	return bits.LeadingZeros32(uint32(a)) - 1
}

func stop(x, least, most int) (int, bool) {
	y := min(max(x, least), most)
	return y, y != x
}

// reckon tells only of what came out: that the operands were stopped is not told.
func reckon(in, out func(x int) (int, bool), op func(a, b int) int, a, b int) (int, bool) {
	a, _ = in(a)
	b, _ = in(b)
	return out(op(a, b))
}

func sum(a, b int) int { return a + b }

func difference(a, b int) int { return a - b }

func gather(op func(a, b int) (int, bool), acc, a, b int) (int, bool) {
	product, first := LMult(a, b)
	x, second := op(acc, product)
	return x, first || second
}

// near makes n one whose negative is a number, too, before it is turned round.
func near(n int) int { return min(max(n, -farthest), farthest) }

func shift(sat func(x int) (int, bool), a, n int) (int, bool) {
	a, _ = sat(a)
	if n < 0 {
		return a >> -n, false
	}
	return sat(a << n)
}
