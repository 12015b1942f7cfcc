package impl

import "strconv"

const MaxValue = 1000000000000

func FormatInt(n int) string {
	return strconv.Itoa(n)
}

func ParseInt(s string) (int, bool) {
	n, err := strconv.Atoi(s)
	// Atoi also takes signs and leading zeros; only the form that FormatInt writes is accepted.
	if err != nil || !InRange(n, 0, MaxValue) || FormatInt(n) != s {
		return 0, false
	}
	return n, true
}

func Min(a int, b int) int {
	return extreme(false, a, b)
}

func Max(a int, b int) int {
	return extreme(true, a, b)
}

// extreme takes the first number apart from the rest so that no call is without a result.
func extreme(largest bool, first int, rest ...int) int {
	best := first
	for _, n := range rest {
		if (n > best) == largest {
			best = n
		}
	}
	return best
}

func CeilDiv(a int, b int) int {
	if !InRange(a, 0, MaxValue) || !InRange(b, 1, MaxValue) {
		return 0
	}
	return (a + b - 1) / b
}

func Mod(p int, q int) int {
	if !InRange(q, 1, MaxValue) {
		return 0
	}
	r := p % q
	// Go's remainder has the sign of p.
	if r < 0 {
		r += q
	}
	return r
}

func InRange(n int, low int, high int) bool {
	return low <= n && n <= high
}
