// Package exact divides, and takes roots, in integers, and says in which direction it rounds.
package exact

import "landfall/api"

// results are a quotient, rounded down and rounded up.
type results struct{ lo, hi int }

// Floor returns the quotient of two integers, rounded down.
func Floor(a, b int) (int, api.Errno) { return divide(a, b, toward(-1)) }

// Ceil returns the quotient of two integers, rounded up.
func Ceil(a, b int) (int, api.Errno) { return divide(a, b, toward(1)) }

// Scale returns n times a, divided by b, rounded down and up.
func Scale(n, a, b int) (lo, hi int, e api.Errno) {
	if !isSpanned(n) || !isFrom(a, 0, api.MaxID) || !isFrom(b, 1, api.MaxID) {
		return 0, 0, api.ErrArg
	}
	// The limits of n and a keep their product far below the greatest int.
	r := results{quotient(n*a, b, toward(-1)), quotient(n*a, b, toward(1))}
	if r != r.limited() {
		return 0, 0, api.ErrRange
	}
	return r.lo, r.hi, api.OK
}

// Root returns the square root of an integer, rounded down.
func Root(n int) (int, api.Errno) {
	if !isFrom(n, 0, api.MaxSpan*api.MaxID) {
		return 0, api.ErrArg
	}
	var root func(n int) int
	root = func(n int) int {
		if n == 0 {
			return 0
		}
		// The root is at least twice that of a quarter, rounded down, and at most one more.
		r := 2 * root(n/4)
		if (r+1)*(r+1) <= n {
			return r + 1
		}
		return r
	}
	return root(n), api.OK
}

// limited returns the results that are within MaxSpan and nearest to r.
func (r results) limited() results {
	limit := func(n int) int { return max(-api.MaxSpan, min(n, api.MaxSpan)) }
	return results{limit(r.lo), limit(r.hi)}
}

func divide(a, b int, step func(above bool) int) (int, api.Errno) {
	if !isSpanned(a) || !isSpanned(b) || b == 0 {
		return 0, api.ErrArg
	}
	return quotient(a, b, step), api.OK
}

// quotient divides, and adds what step says if Go's division has cut something off: above tells that the true quotient is above what was left.
func quotient[T ~int](a, b T, step func(above bool) T) T {
	q, rest := a/b, a%b
	if rest == 0 {
		return q
	}
	return q + step((rest < 0) == (b < 0))
}

// toward makes the step that rounds up (way 1) or down (way -1).
func toward(way int) func(above bool) int {
	return func(above bool) int {
		if above == (way > 0) {
			return way
		}
		return 0
	}
}

func isSpanned(n int) bool { return isFrom(n, -api.MaxSpan, api.MaxSpan) }

func isFrom(n, lo, hi int) bool { return lo <= n && n <= hi }
