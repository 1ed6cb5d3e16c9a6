// Package exacts is layer 1: numbers that are exact, or too great. See doc/01-exacts.md.
package exacts

import (
	"math/bits"

	"countinghouse/api"
)

// Add: the sum. (P1.1)
func Add(a, b int64) (int64, api.Errno) { return narrow(plus(widen(a), widen(b))) }

// Sub: the difference. (P1.1)
func Sub(a, b int64) (int64, api.Errno) { return narrow(minus(widen(a), widen(b))) }

// Mul: the product. (P1.1)
func Mul(a, b int64) (int64, api.Errno) { return narrow(product(a, b)) }

// Sum of all. (P1.2)
func Sum(l ...int64) (int64, api.Errno) {
	var all wide
	for _, n := range l {
		all = plus(all, widen(n))
	}
	return narrow(all)
}

// Down: a times num by den, floored. (P1.3)
func Down(a, num, den int64) (int64, api.Errno) {
	whole, _, e := divide(a, num, den)
	return whole, e
}

// Up: likewise, raised. (P1.3)
func Up(a, num, den int64) (int64, api.Errno) {
	whole, left, e := divide(a, num, den)
	if e != api.OK || left == 0 {
		return whole, e
	}
	return Add(whole, 1)
}

// wide is a whole number of 128 bits with a sign, the upper word first: room
// for every product of two numbers, and for the sum of far more numbers than
// can be handed in, so that only what is answered may be too great.
type wide [2]uint64

func widen(n int64) wide { return wide{uint64(n >> 63), uint64(n)} }

func narrow(w wide) (int64, api.Errno) {
	n := int64(w[1])
	if widen(n) != w {
		return 0, api.ErrOver
	}
	return n, api.OK
}

func plus(a, b wide) wide {
	low, carry := bits.Add64(a[1], b[1], 0)
	high, _ := bits.Add64(a[0], b[0], carry)
	return wide{high, low}
}

func minus(a, b wide) wide {
	low, borrow := bits.Sub64(a[1], b[1], 0)
	high, _ := bits.Sub64(a[0], b[0], borrow)
	return wide{high, low}
}

func product(a, b int64) wide {
	high, low := bits.Mul64(uint64(a), uint64(b))
	// A number below 0 is read as 2^64 more than it is: the other one stands
	// in the upper word once too often.
	if a < 0 {
		high -= uint64(b)
	}
	if b < 0 {
		high -= uint64(a)
	}
	return wide{high, low}
}

// divide tells how often den goes into a times num, and what is left.
func divide(a, num, den int64) (whole, left int64, e api.Errno) {
	if a < 0 || num < 0 || den < 1 {
		return 0, 0, api.ErrArg
	}
	all, by := product(a, num), uint64(den)
	if all[0] >= by {
		return 0, 0, api.ErrOver // Div64 would panic: the quotient needs a third word.
	}
	often, rest := bits.Div64(all[0], all[1], by)
	whole, e = narrow(wide{0, often})
	if e != api.OK {
		return 0, 0, e
	}
	return whole, int64(rest), api.OK
}
