// Package safe computes with checked 64-bit integers, and with bounds that may be infinite.
package safe

import (
	"math"
	"math/bits"

	"epact/api"
)

// Add returns a + b.
func Add(a, b int) (int, api.Errno) {
	sum := a + b
	if (a < 0) == (b < 0) && (sum < 0) != (a < 0) {
		return 0, api.ErrOver
	}
	return sum, api.OK
}

// Sub returns a - b.
func Sub(a, b int) (int, api.Errno) {
	diff := a - b
	if (a < 0) != (b < 0) && (diff < 0) != (a < 0) {
		return 0, api.ErrOver
	}
	return diff, api.OK
}

// Mul returns a * b.
func Mul(a, b int) (int, api.Errno) {
	high, low := bits.Mul64(unsigned(a), unsigned(b))
	if high != 0 {
		return 0, api.ErrOver
	}
	return signed(low, (a < 0) != (b < 0))
}

// Floor returns the quotient a / b, rounded down, and the remainder.
func Floor(a, b int) (int, int, api.Errno) {
	if b == 0 {
		return 0, 0, api.ErrZero
	}
	if a == math.MinInt && b == -1 {
		return 0, 0, api.ErrOver
	}
	quotient, rest := a/b, a%b
	if rest != 0 && (rest < 0) != (b < 0) {
		quotient--
		rest += b
	}
	return quotient, rest, api.OK
}

// Gcd returns the greatest number that divides both.
func Gcd(a, b int) (int, api.Errno) {
	return signed(divisor(unsigned(a), unsigned(b)), false)
}

// Lcm returns the least positive number that both divide; 0 if one of them is 0.
func Lcm(a, b int) (int, api.Errno) {
	if a == 0 || b == 0 {
		return 0, api.OK
	}
	x, y := unsigned(a), unsigned(b)
	high, low := bits.Mul64(x/divisor(x, y), y)
	if high != 0 {
		return 0, api.ErrOver
	}
	return signed(low, false)
}

// divisor is Euclid's algorithm, without signs because the least number has no positive counterpart.
func divisor(a, b uint64) uint64 {
again:
	if b == 0 {
		return a
	}
	a, b = b, a%b
	goto again
}

// unsigned returns how far a is from 0.
func unsigned(a int) uint64 {
	if a < 0 {
		return -uint64(a)
	}
	return uint64(a)
}

// signed returns the number that is n from 0, on the negative side if it is below.
func signed(n uint64, below bool) (int, api.Errno) {
	if below && n <= 1<<63 {
		return int(-n), api.OK
	}
	if n > math.MaxInt {
		return 0, api.ErrOver
	}
	return int(n), api.OK
}

// Right reports whether a is a number or an infinity.
func Right(a api.Bound) bool {
	return a.Inf == 0 || (a.Inf == 1 || a.Inf == -1) && a.N == 0
}

// Sum returns a + b.
func Sum(a, b api.Bound) (api.Bound, api.Errno) {
	switch {
	case !Right(a) || !Right(b):
		return api.Bound{}, api.ErrArg
	case a.Inf*b.Inf == -1:
		return api.Bound{}, api.ErrOver
	case a.Inf != 0:
		return a, api.OK
	case b.Inf != 0:
		return b, api.OK
	}
	n, wrong := Add(a.N, b.N)
	return api.Bound{N: n}, wrong
}

// Minus returns -a.
func Minus(a api.Bound) (api.Bound, api.Errno) {
	if !Right(a) {
		return api.Bound{}, api.ErrArg
	}
	n, wrong := Sub(0, a.N)
	if wrong != api.OK {
		return api.Bound{}, wrong
	}
	return api.Bound{Inf: -a.Inf, N: n}, api.OK
}

// Less reports whether a is below b.
func Less(a, b api.Bound) bool {
	if !Right(a) || !Right(b) {
		return false
	}
	if a.Inf != b.Inf {
		return a.Inf < b.Inf
	}
	return a.N < b.N
}
