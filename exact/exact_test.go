package exact

import (
	"math"
	"math/big"
	"math/rand"
	"testing"

	"landfall/api"
)

// dividends has small integers of both signs, the ends of what is allowed, and some between.
func dividends() []int {
	l := []int{999999999999, 1000000000000, -999999999999, -1000000000000, 857142857143, -857142857143, 500000000000, 123456789}
	for n := -30; n <= 30; n++ {
		l = append(l, n)
	}
	random := rand.New(rand.NewSource(1))
	for range 40 {
		l = append(l, random.Intn(2*api.MaxSpan+1)-api.MaxSpan)
	}
	return l
}

// parts has numerators and denominators of Scale above 0.
func parts() []int {
	return []int{1, 2, 3, 6, 7, 10, 499999, 500000, 999999, 1000000}
}

// scaled has dividends whose scaling by any of parts is within MaxSpan.
func scaled() []int {
	var l []int
	for _, n := range dividends() {
		l = append(l, n/api.MaxID)
	}
	return append(l, 29, -29, 999983, -999983)
}

// outside has integers that no function takes.
func outside() []int {
	return []int{1000000000001, -1000000000001, math.MaxInt, math.MinInt, math.MaxInt / 2, math.MinInt + 1}
}

// quotients finds both roundings of a / b by Euclidean division of big integers.
func quotients(a, b *big.Int) (down, up *big.Int) {
	if b.Sign() < 0 {
		a, b = new(big.Int).Neg(a), new(big.Int).Neg(b)
	}
	down, rest := new(big.Int).DivMod(a, b, new(big.Int))
	up = new(big.Int).Set(down)
	if rest.Sign() != 0 {
		up.Add(up, big.NewInt(1))
	}
	return down, up
}

func large(n int) *big.Int { return big.NewInt(int64(n)) }

func mustDivide(t *testing.T, a, b int) (down, up int) {
	t.Helper()
	down, e := Floor(a, b)
	up, f := Ceil(a, b)
	if e != api.OK || f != api.OK {
		t.Fatalf("%d / %d: errors %v, %v", a, b, e, f)
	}
	return down, up
}

func mustScale(t *testing.T, n, a, b int) (lo, hi int) {
	t.Helper()
	lo, hi, e := Scale(n, a, b)
	if e != api.OK {
		t.Fatalf("Scale(%d, %d, %d): %v", n, a, b, e)
	}
	return lo, hi
}

func TestP1_1_DivideExamples(t *testing.T) {
	for _, x := range []struct{ a, b, down, up int }{
		{-7, 2, -4, -3}, {7, -2, -4, -3}, {7, 2, 3, 4}, {-7, -2, 3, 4},
		{6, 3, 2, 2}, {-6, 3, -2, -2}, {6, -3, -2, -2}, {-6, -3, 2, 2},
		{0, 1, 0, 0}, {0, -1, 0, 0}, {1, 2, 0, 1}, {-1, 2, -1, 0}, {1, -2, -1, 0}, {-1, -2, 0, 1},
		{1, 1000000000000, 0, 1}, {1, -1000000000000, -1, 0},
		{1000000000000, 1000000000000, 1, 1}, {1000000000000, -1000000000000, -1, -1},
		{999999999999, 1000000000000, 0, 1}, {-1000000000000, -1, 1000000000000, 1000000000000},
	} {
		if down, up := mustDivide(t, x.a, x.b); down != x.down || up != x.up {
			t.Errorf("%d / %d: %d, %d", x.a, x.b, down, up)
		}
	}
}

func TestP1_1_DivideErrors(t *testing.T) {
	pairs := [][2]int{{0, 0}, {1, 0}, {-1, 0}, {1000000000000, 0}, {math.MinInt, -1}}
	for _, n := range outside() {
		pairs = append(pairs, [2]int{n, 1}, [2]int{n, 0}, [2]int{1, n}, [2]int{0, n}, [2]int{n, n})
	}
	for _, x := range pairs {
		if down, e := Floor(x[0], x[1]); down != 0 || e != api.ErrArg {
			t.Errorf("Floor of %v: %d, %v", x, down, e)
		}
		if up, e := Ceil(x[0], x[1]); up != 0 || e != api.ErrArg {
			t.Errorf("Ceil of %v: %d, %v", x, up, e)
		}
	}
}

func TestP1_1_ScaleExamples(t *testing.T) {
	for _, x := range []struct{ n, a, b, lo, hi int }{
		{-10, 3, 4, -8, -7}, {10, 3, 4, 7, 8}, {8, 3, 4, 6, 6}, {-8, 3, 4, -6, -6},
		{0, 3, 4, 0, 0}, {5, 0, 7, 0, 0}, {-1000000000000, 0, 1, 0, 0},
		{1, 1, 1000000, 0, 1}, {-1, 1, 1000000, -1, 0}, {1000000, 1000000, 1, 1000000000000, 1000000000000},
		{1000000000000, 1000000, 1000000, 1000000000000, 1000000000000},
		{-1000000000000, 1000000, 1000000, -1000000000000, -1000000000000},
		{999999999999, 999999, 1000000, 999998999999, 999999000000},
		{857142857142, 7, 6, 999999999999, 999999999999},
	} {
		if lo, hi := mustScale(t, x.n, x.a, x.b); lo != x.lo || hi != x.hi {
			t.Errorf("Scale(%d, %d, %d): %d, %d", x.n, x.a, x.b, lo, hi)
		}
	}
}

func TestP1_1_ScaleErrors(t *testing.T) {
	type call struct {
		n, a, b int
		e       api.Errno
	}
	calls := []call{
		{1, -1, 1, api.ErrArg}, {1, 1000001, 1, api.ErrArg}, {1, math.MaxInt, 1, api.ErrArg}, {1, math.MinInt, 1, api.ErrArg},
		{1, 1, 0, api.ErrArg}, {1, 1, -1, api.ErrArg}, {1, 1, 1000001, api.ErrArg}, {1, 1, math.MaxInt, api.ErrArg}, {1, 1, math.MinInt, api.ErrArg},
		{1000000000000, 2, 1, api.ErrRange}, {-1000000000000, 2, 1, api.ErrRange},
		{1000000000000, 1000000, 999999, api.ErrRange}, {1000000000000, 1000000, 1, api.ErrRange}, {-1000000000000, 1000000, 1, api.ErrRange},
		{1000001, 1000000, 1, api.ErrRange},
		// Only one of both results is outside: 1000000000000 and one more, and the same below 0.
		{857142857143, 7, 6, api.ErrRange}, {-857142857143, 7, 6, api.ErrRange},
		// What is no argument comes first, even if the results would be out of range.
		{1000000000001, 2, 1, api.ErrArg}, {1000000000000, 1000001, 1, api.ErrArg}, {1000000000000, 2, 0, api.ErrArg}, {-1000000000000, 2, -1, api.ErrArg},
	}
	for _, n := range outside() {
		calls = append(calls, call{n, 1, 1, api.ErrArg}, call{n, 0, 1, api.ErrArg}, call{n, 1000000, 1, api.ErrArg}, call{n, n, n, api.ErrArg})
	}
	for _, x := range calls {
		if lo, hi, e := Scale(x.n, x.a, x.b); lo != 0 || hi != 0 || e != x.e {
			t.Errorf("Scale(%d, %d, %d): %d, %d, %v instead of %v", x.n, x.a, x.b, lo, hi, e, x.e)
		}
	}
}

func TestP1_1_ScaleRangeIsExact(t *testing.T) {
	most := large(api.MaxSpan)
	for _, n := range dividends() {
		for _, a := range append(parts(), 0) {
			for _, b := range parts() {
				down, up := quotients(new(big.Int).Mul(large(n), large(a)), large(b))
				want := api.OK
				if down.CmpAbs(most) > 0 || up.CmpAbs(most) > 0 {
					want, down, up = api.ErrRange, new(big.Int), new(big.Int)
				}
				lo, hi, e := Scale(n, a, b)
				if e != want || large(lo).Cmp(down) != 0 || large(hi).Cmp(up) != 0 {
					t.Fatalf("Scale(%d, %d, %d): %d, %d, %v", n, a, b, lo, hi, e)
				}
			}
		}
	}
}

func TestP1_1_RootExamples(t *testing.T) {
	for _, x := range []struct{ n, root int }{
		{0, 0}, {1, 1}, {2, 1}, {3, 1}, {4, 2}, {8, 2}, {9, 3}, {24, 4}, {25, 5}, {26, 5},
		{999999999999, 999999}, {1000000000000, 1000000},
		{999999998000000000, 999999998}, {999999998000000001, 999999999},
		{999999999999999999, 999999999}, {1000000000000000000, 1000000000},
	} {
		if root, e := Root(x.n); root != x.root || e != api.OK {
			t.Errorf("Root(%d): %d, %v", x.n, root, e)
		}
	}
}

func TestP1_1_RootErrors(t *testing.T) {
	for _, n := range []int{-1, -4, -1000000000000, math.MinInt, 1000000000000000001, math.MaxInt} {
		if root, e := Root(n); root != 0 || e != api.ErrArg {
			t.Errorf("Root(%d): %d, %v", n, root, e)
		}
	}
}

func TestP1_2_Between(t *testing.T) {
	for _, a := range dividends() {
		for _, b := range dividends() {
			if b == 0 {
				continue
			}
			down, up := mustDivide(t, a, b)
			lo, hi := quotients(large(a), large(b))
			if large(down).Cmp(lo) != 0 || large(up).Cmp(hi) != 0 {
				t.Fatalf("%d / %d: %d, %d", a, b, down, up)
			}
			if whole := a%b == 0; whole && up != down || !whole && up != down+1 {
				t.Fatalf("%d / %d: %d, %d are not next to the quotient", a, b, down, up)
			}
		}
	}
}

func TestP1_2_BetweenScaled(t *testing.T) {
	for _, n := range scaled() {
		for _, a := range append(parts(), 0) {
			for _, b := range parts() {
				lo, hi := mustScale(t, n, a, b)
				if lo*b > n*a || hi*b < n*a {
					t.Fatalf("Scale(%d, %d, %d): %d, %d", n, a, b, lo, hi)
				}
				if whole := n*a%b == 0; whole && hi != lo || !whole && hi != lo+1 {
					t.Fatalf("Scale(%d, %d, %d): %d, %d are not next to the quotient", n, a, b, lo, hi)
				}
			}
		}
	}
}

func TestP1_3_Signs(t *testing.T) {
	for _, a := range dividends() {
		for _, b := range dividends() {
			if b == 0 {
				continue
			}
			down, up := mustDivide(t, a, b)
			for _, x := range [][2]int{{-a, b}, {a, -b}} {
				if below, above := mustDivide(t, x[0], x[1]); above != -down || below != -up {
					t.Fatalf("%v: %d, %d, but %d / %d: %d, %d", x, below, above, a, b, down, up)
				}
			}
		}
	}
	for _, n := range scaled() {
		for _, a := range parts() {
			lo, hi := mustScale(t, n, a, 7)
			if below, above := mustScale(t, -n, a, 7); above != -lo || below != -hi {
				t.Fatalf("Scale of %d and %d by %d / 7: %d, %d and %d, %d", n, -n, a, lo, hi, below, above)
			}
		}
	}
}

func TestP1_4_Order(t *testing.T) {
	for _, b := range []int{1, 2, 3, 7, 1000000, 1000000000000} {
		for _, a := range dividends() {
			for _, more := range dividends() {
				if more <= a {
					continue
				}
				down, up := mustDivide(t, a, b)
				if d, u := mustDivide(t, more, b); d < down || u < up {
					t.Fatalf("%d / %d: %d, %d, but %d / %d: %d, %d", a, b, down, up, more, b, d, u)
				}
			}
		}
	}
}

func TestP1_4_OrderOfParts(t *testing.T) {
	for _, n := range scaled() {
		if n < 0 {
			continue
		}
		for _, b := range parts() {
			last, most := 0, 0
			for _, a := range append([]int{0}, parts()...) {
				lo, hi := mustScale(t, n, a, b)
				if lo < last || hi < most {
					t.Fatalf("Scale(%d, %d, %d): %d, %d is less than for a lesser part", n, a, b, lo, hi)
				}
				last, most = lo, hi
			}
		}
	}
}

func TestP1_5_OneAfterTheOther(t *testing.T) {
	for _, n := range scaled() {
		for _, a := range parts() {
			for _, b := range parts() {
				lo, hi := mustScale(t, n, a, b)
				less, _, e := Scale(lo, b, a)
				if e == api.OK && less > n {
					t.Fatalf("Scale(%d, %d, %d) and back, down: %d", n, a, b, less)
				}
				_, more, f := Scale(hi, b, a)
				if f == api.OK && more < n {
					t.Fatalf("Scale(%d, %d, %d) and back, up: %d", n, a, b, more)
				}
				if a >= b && (e != api.OK || f != api.OK) {
					t.Fatalf("Scale(%d, %d, %d) and back: %v, %v", n, a, b, e, f)
				}
			}
		}
	}
}

func TestP1_6_Roots(t *testing.T) {
	numbers := []int{65535, 65536, 31622776, 999999, 1000000, 999999998, 999999999, 1000000000}
	for n := range 2000 {
		numbers = append(numbers, n)
	}
	for k := range 30 {
		numbers = append(numbers, 1<<k, 1<<k+1)
	}
	for _, n := range numbers {
		for _, signed := range []int{n, -n} {
			if root, e := Root(signed * signed); root != n || e != api.OK {
				t.Errorf("Root of the square of %d: %d, %v", signed, root, e)
			}
		}
		if root, e := Root(n*n - 1); n > 0 && (root != n-1 || e != api.OK) {
			t.Errorf("Root(%d): %d, %v", n*n-1, root, e)
		}
	}
}

func TestP1_6_NoGreaterRoot(t *testing.T) {
	random := rand.New(rand.NewSource(2))
	for k := range 5000 {
		n := k
		if k >= 2000 {
			n = random.Intn(1000000000000000001)
		}
		root, e := Root(n)
		if e != api.OK || root < 0 || root*root > n || (root+1)*(root+1) <= n {
			t.Fatalf("Root(%d): %d, %v", n, root, e)
		}
	}
}

func TestP1_7_Sums(t *testing.T) {
	for _, n := range scaled() {
		for _, m := range scaled() {
			for _, b := range parts() {
				nLo, nHi := mustDivide(t, n, b)
				mLo, mHi := mustDivide(t, m, b)
				if lo, hi := mustDivide(t, n+m, b); lo < nLo+mLo || lo > nLo+mLo+1 || hi > nHi+mHi {
					t.Fatalf("(%d + %d) / %d: %d, %d", n, m, b, lo, hi)
				}
			}
		}
	}
}

func TestP1_7_SumsScaled(t *testing.T) {
	for _, n := range scaled() {
		for _, m := range scaled() {
			for _, x := range [][2]int{{0, 1}, {1, 1}, {3, 4}, {7, 3}, {1, 1000000}, {499999, 1000000}, {400000, 3}} {
				nLo, nHi := mustScale(t, n, x[0], x[1])
				mLo, mHi := mustScale(t, m, x[0], x[1])
				if lo, hi := mustScale(t, n+m, x[0], x[1]); lo < nLo+mLo || lo > nLo+mLo+1 || hi > nHi+mHi {
					t.Fatalf("Scale(%d + %d, %d, %d): %d, %d", n, m, x[0], x[1], lo, hi)
				}
			}
		}
	}
}

func TestP1_AllArgumentsEnd(t *testing.T) {
	extremes := append(outside(), 0, 1, -1, api.MaxID, api.MaxID+1, api.MaxSpan, -api.MaxSpan)
	for _, a := range extremes {
		if root, e := Root(a); e != api.OK && root != 0 {
			t.Errorf("Root(%d): %d, %v", a, root, e)
		}
		for _, b := range extremes {
			if down, e := Floor(a, b); e != api.OK && down != 0 {
				t.Errorf("Floor(%d, %d): %d, %v", a, b, down, e)
			}
			if up, e := Ceil(a, b); e != api.OK && up != 0 {
				t.Errorf("Ceil(%d, %d): %d, %v", a, b, up, e)
			}
			for _, c := range extremes {
				if lo, hi, e := Scale(a, b, c); e != api.OK && (lo != 0 || hi != 0) {
					t.Errorf("Scale(%d, %d, %d): %d, %d, %v", a, b, c, lo, hi, e)
				}
			}
		}
	}
}
