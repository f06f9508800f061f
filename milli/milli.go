// Package milli is thousandths: see DOC.md, chapter 1.
package milli

import (
	"math"
	"math/bits"

	"spinnaker/api"
)

// What a calculation comes to is one of three kinds, and only tell makes a
// number of it: so no number that went round can be taken for a result.
type (
	exact  int64
	beyond int64 // the end that stands for it
	none   struct{}
)

// Add is a and b, cut at the ends of 64 bits.
func Add(a, b int64) (int64, int) { return tell(sum(a, b)) }

// Sub is a less b, cut at the ends of 64 bits.
func Sub(a, b int64) (int64, int) { return tell(difference(a, b)) }

// Mul is a times b in thousandths, rounded towards minus infinity.
func Mul(a, b int64) (int64, int) { return tell(product(a, b)) }

// Up is a / b, rounded towards plus infinity.
func Up(a, b int64) (int64, int) { return tell(quotient(a, b, 1)) }

// Down is a / b, rounded towards minus infinity.
func Down(a, b int64) (int64, int) { return tell(quotient(a, b, -1)) }

// Clamp asks hi first: with lo above hi it is hi that counts for what lies above.
func Clamp(a, lo, hi int64) int64 {
	if a > hi {
		return hi
	}
	if a < lo {
		return lo
	}
	return a
}

func tell(result any) (int64, int) {
	if n, ok := result.(exact); ok {
		return int64(n), api.OK
	}
	if end, ok := result.(beyond); ok {
		return int64(end), api.ErrOver
	}
	return 0, api.ErrZero
}

func sum(a, b int64) any {
	n := a + b
	if a < 0 && b < 0 && n >= 0 {
		return beyond(math.MinInt64)
	}
	if a >= 0 && b >= 0 && n < 0 {
		return beyond(math.MaxInt64)
	}
	return exact(n)
}

func difference(a, b int64) any {
	n := a - b
	if a < 0 && b >= 0 && n >= 0 {
		return beyond(math.MinInt64)
	}
	if a >= 0 && b < 0 && n < 0 {
		return beyond(math.MaxInt64)
	}
	return exact(n)
}

// The product is made in 128 bits, as only what is left after the division
// may be cut.
func product(a, b int64) any {
	negative := (a < 0) != (b < 0)
	high, low := bits.Mul64(size(a), size(b))
	if high >= api.One {
		return end(negative)
	}
	whole, rest := bits.Div64(high, low, api.One)
	if negative {
		return below(whole, rest > 0)
	}
	if whole > math.MaxInt64 {
		return end(negative)
	}
	return exact(whole)
}

// below is minus whole, and one less where something is left.
func below(whole uint64, more bool) any {
	const most = 1 << 63
	if whole > most || whole == most && more {
		return end(true)
	}
	n := -int64(whole) // minus 2^63 is its own negative
	if more {
		n--
	}
	return exact(n)
}

func end(negative bool) beyond {
	if negative {
		return math.MinInt64
	}
	return math.MaxInt64
}

func size(a int64) uint64 {
	if a < 0 {
		return -uint64(a)
	}
	return uint64(a)
}

// quotient rounds the way that step shows.
func quotient(a, b, step int64) any {
	if b == 0 {
		return none{}
	}
	if a == math.MinInt64 && b == -1 {
		return beyond(math.MaxInt64)
	}
	n := a / b
	negative := (a < 0) != (b < 0)
	if a%b != 0 && negative == (step < 0) {
		n += step
	}
	return exact(n)
}
