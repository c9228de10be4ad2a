package impl

import (
	"cmp"
	"math/bits"
)

const MaxNs = 4000000000000000000

func NsOk(n int64) bool { return n >= -MaxNs && n <= MaxNs }

func AddNs(a int64, b int64) (int64, bool) {
	if !NsOk(a) || !NsOk(b) {
		return 0, false
	}
	// Twice MaxNs is still an int64, so the sum can't wrap round.
	return asTime(a + b)
}

func SubNs(a int64, b int64) (int64, bool) {
	// No time is the least int64, so -b is a time just when b is one.
	return AddNs(a, -b)
}

func FloorDiv(a int64, b int64) (int64, bool) {
	if !NsOk(a) || b < 1 {
		return 0, false
	}
	quotient := a / b
	// Go rounds towards 0, which is up below 0.
	if a%b < 0 {
		quotient--
	}
	return quotient, true
}

func MulDiv(a int64, b int64, c int64) (int64, bool) {
	if !NsOk(a) || !NsOk(b) || c < 1 || c > MaxNs {
		return 0, false
	}
	size, rest := mulDivSizes(sizeOf(a), sizeOf(b), uint64(c))
	if (a < 0) == (b < 0) {
		return asTime(int64(size))
	}
	// Below 0, to round down is to go further from 0.
	if rest {
		size++
	}
	return asTime(-int64(size))
}

// mulDivSizes tells a times b, by c, and whether there is a rest. All that
// is too great to be a time is told as MaxNs and 1, so that the caller can
// add 1 and give it a sign without wrapping round. c is at least 1.
func mulDivSizes(a uint64, b uint64, c uint64) (uint64, bool) {
	high, low := bits.Mul64(a, b)
	// Div64 panics where the quotient needs more than one word.
	if high >= c {
		return MaxNs + 1, false
	}
	quotient, rest := bits.Div64(high, low, c)
	return lesser(quotient, MaxNs+1), rest != 0
}

// asTime refuses what is no time, in the form that the chapter's functions answer.
func asTime(n int64) (int64, bool) {
	if !NsOk(n) {
		return 0, false
	}
	return n, true
}

// sizeOf is n without its sign; n is a time, so that -n is one too.
func sizeOf(n int64) uint64 {
	if n < 0 {
		return uint64(-n)
	}
	return uint64(n)
}

func lesser[T cmp.Ordered](a T, b T) T {
	if b < a {
		return b
	}
	return a
}
