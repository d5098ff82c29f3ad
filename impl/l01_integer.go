package impl

import "strconv"

// MaxValue is the largest integer that the encodings of this module carry.
const MaxValue = 1000000000000

// FormatInt returns the decimal representation of n.
func FormatInt(n int) string {
	return strconv.Itoa(n)
}

// ParseInt returns the integer from 0 to MaxValue that FormatInt writes as s.
// The value is compared with MaxValue after every digit, so that it cannot wrap around however long s is.
func ParseInt(s string) (int, bool) {
	n := 0
	for i := 0; i < len(s); i++ {
		switch c := s[i]; c {
		case '0':
			if i == 0 && len(s) > 1 {
				return 0, false
			}
			fallthrough
		case '1', '2', '3', '4', '5', '6', '7', '8', '9':
			n = n*10 + int(c-'0')
		default:
			return 0, false
		}
		if n > MaxValue {
			return 0, false
		}
	}
	return n, s != ""
}

// Min returns the smaller of a and b.
func Min(a int, b int) int {
	return extreme(isLess, a, b)
}

// Max returns the larger of a and b.
func Max(a int, b int) int {
	return extreme(isGreater, a, b)
}

// CeilDiv returns a divided by b, rounded up; 0 if a or b is out of range.
func CeilDiv(a int, b int) int {
	if !InRange(a, 0, MaxValue) || !InRange(b, 1, MaxValue) {
		return 0
	}
	return (a + b - 1) / b
}

// Mod returns the remainder of p modulo q, which is never negative; 0 if q is out of range.
func Mod(p int, q int) int {
	if !InRange(q, 1, MaxValue) {
		return 0
	}
	r := p % q
	if r < 0 {
		// Go's remainder has the sign of p.
		r += q
	}
	return r
}

// InRange reports whether n is from low to high.
func InRange(n int, low int, high int) bool {
	return low <= n && n <= high
}

func isLess(a int, b int) bool {
	return a < b
}

func isGreater(a int, b int) bool {
	return a > b
}

// extreme returns the number that comes before all others in the given order.
func extreme(before func(int, int) bool, first int, others ...int) int {
	best := first
	for _, n := range others {
		if before(n, best) {
			best = n
		}
	}
	return best
}
