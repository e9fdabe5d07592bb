// Package fixed computes with integers without overflows: a result that is
// no int is reported by a false, and the number beside it is 0 then.
package fixed

import (
	"math"
	"math/bits"

	"timesync/api"
)

// billion is what rates in parts per billion are parts of.
const billion = 1000000000

// rootBits is how many bits the root of an int can have.
const rootBits = 32

// Add returns a + b.
func Add(a, b int) (int, bool) {
	sum := a + b
	if (sum > a) != (b > 0) {
		return 0, false
	}
	return sum, true
}

// Sub returns a - b.
func Sub(a, b int) (int, bool) {
	diff := a - b
	if (diff < a) != (b > 0) {
		return 0, false
	}
	return diff, true
}

// Mul returns a * b.
func Mul(a, b int) (int, bool) {
	return MulDiv(a, b, 1)
}

// Abs returns the absolute value of n.
func Abs(n int) (int, bool) {
	if n == math.MinInt {
		return 0, false
	}
	if n < 0 {
		return -n, true
	}
	return n, true
}

// Floor returns a / b rounded down.
func Floor(a, b int) (int, bool) {
	if !divides(a, b) {
		return 0, false
	}
	q := a / b
	if r := a % b; r != 0 && (r < 0) != (b < 0) {
		q--
	}
	return q, true
}

// Ceil returns a / b rounded up.
func Ceil(a, b int) (int, bool) {
	if !divides(a, b) {
		return 0, false
	}
	q := a / b
	if r := a % b; r != 0 && (r < 0) == (b < 0) {
		q++
	}
	return q, true
}

// Near returns a / b rounded to the nearest integer, a tie to the even one.
func Near(a, b int) (int, bool) {
	q, ok := Floor(a, b)
	if !ok {
		return 0, false
	}
	// Twice the part that was cut off may not fit, so it is compared with
	// what is missing to the next integer.
	cut := magnitude(a - q*b)
	missing := magnitude(b) - cut
	if cut > missing || cut == missing && q%2 != 0 {
		q++
	}
	return q, true
}

// divides reports whether a / b has a value that, however it is rounded, is
// an int.
func divides(a, b int) bool {
	return b != 0 && !(a == math.MinInt && b == -1)
}

// MulDiv returns a * b / c rounded down.
func MulDiv(a, b, c int) (int, bool) {
	high, low := bits.Mul64(magnitude(a), magnitude(b))
	divisor := magnitude(c)
	if divisor == 0 || high >= divisor {
		return 0, false
	}
	q, rest := bits.Div64(high, low, divisor)
	if negative := (a < 0) != (b < 0) != (c < 0); negative {
		return negated(q, rest != 0)
	}
	if q > math.MaxInt {
		return 0, false
	}
	return int(q), true
}

// negated returns -q, or -q - 1 where the division that led to q left a rest.
func negated(q uint64, rest bool) (int, bool) {
	const most = 1 << 63
	if q > most || q == most && rest {
		return 0, false
	}
	if rest {
		q++
	}
	return int(-q), true
}

// magnitude returns the absolute value of n, which for the least int is no int.
func magnitude(n int) uint64 {
	if n < 0 {
		return -uint64(n)
	}
	return uint64(n)
}

// Sqrt returns the square root of n rounded down.
func Sqrt(n int) (int, bool) {
	if n < 0 {
		return 0, false
	}
	var root uint64
	for i := range rootBits {
		larger := root | 1<<(rootBits-1-i)
		if larger*larger <= uint64(n) {
			root = larger
		}
	}
	return int(root), true
}

// Clamp returns the number from lo to hi that is nearest to n; lo counts first
// where lo is greater than hi.
func Clamp(n, lo, hi int) int {
	if n < lo {
		return lo
	}
	if n > hi {
		return hi
	}
	return n
}

// Scale returns what a clock that is ppb parts per billion fast counts in n nanoseconds.
func Scale(n, ppb int) (int, bool) {
	if !isRate(ppb) {
		return 0, false
	}
	return MulDiv(n, billion+ppb, billion)
}

// Unscale returns the nanoseconds in which such a clock counts n.
func Unscale(n, ppb int) (int, bool) {
	if !isRate(ppb) {
		return 0, false
	}
	return MulDiv(n, billion, billion+ppb)
}

func isRate(ppb int) bool {
	return ppb >= -api.MaxPPB && ppb <= api.MaxPPB
}
