package span

import (
	"math"
	"math/big"
	"math/rand"
	"testing"

	"landfall/api"
)

const most = api.MaxSpan

func of(lo, hi int) api.Span { return api.Span{Lo: lo, Hi: hi} }

// small has all spans of a few integers around 0: few enough to look at everything that pairs of them have.
func small() []api.Span {
	var l []api.Span
	for lo := -5; lo <= 5; lo++ {
		for hi := lo; hi <= 5; hi++ {
			l = append(l, of(lo, hi))
		}
	}
	return l
}

// large has spans up to the ends of what is allowed.
func large() []api.Span {
	l := []api.Span{of(-most, most), of(-most, -most), of(most, most), of(-most, 0), of(0, most), of(0, 0), of(1, most), of(-most, -1), of(-1, most-1), of(1-most, 1)}
	random := rand.New(rand.NewSource(1))
	for range 20 {
		l = append(l, ends(random.Intn(2*most+1)-most, random.Intn(2*most+1)-most))
	}
	return l
}

func all() []api.Span { return append(small(), large()...) }

// invalid has spans that no function takes.
func invalid() []api.Span {
	return []api.Span{
		of(1, 0), of(0, -1), of(most, -most), of(most, most-1), of(0, most+1), of(-most-1, 0), of(-most-1, most+1), of(most+1, most+1), of(-most-1, -most-1),
		of(math.MinInt, math.MaxInt), of(math.MaxInt, math.MinInt), of(math.MinInt, 0), of(0, math.MaxInt), of(math.MaxInt, math.MaxInt), of(math.MinInt, math.MinInt), of(math.MaxInt, 0), of(0, math.MinInt),
	}
}

// parts has spans of thousandths.
func parts() []api.Span {
	return []api.Span{of(0, 0), of(0, 1), of(1, 1), of(1, 999), of(999, 1001), of(1000, 1000), of(0, 1000), of(300, 1500), of(333, 334), of(1500, 2500), of(0, 1000000), of(1000000, 1000000), of(999999, 1000000)}
}

type binary func(a, b api.Span) (api.Span, api.Errno)

func meet(a, b api.Span) (api.Span, api.Errno) {
	s, _, e := Meet(a, b)
	return s, e
}

func must(t *testing.T, f binary, a, b api.Span) api.Span {
	t.Helper()
	s, e := f(a, b)
	if e != api.OK {
		t.Fatalf("%v, %v: %v", a, b, e)
	}
	return s
}

// has looks at a span without the package that is tested.
func has(s api.Span, n int) bool { return s.Lo <= n && n <= s.Hi }

func within(s, other api.Span) bool { return has(other, s.Lo) && has(other, s.Hi) }

func TestP2_1_Valid(t *testing.T) {
	for _, s := range append(all(), parts()...) {
		if !Valid(s) {
			t.Errorf("%v is not valid", s)
		}
	}
	for _, s := range invalid() {
		if Valid(s) {
			t.Errorf("%v is valid", s)
		}
	}
}

func TestP2_1_Has(t *testing.T) {
	for _, x := range []struct {
		s  api.Span
		n  int
		is bool
	}{
		{of(2, 4), 1, false}, {of(2, 4), 2, true}, {of(2, 4), 3, true}, {of(2, 4), 4, true}, {of(2, 4), 5, false},
		{of(-3, -3), -3, true}, {of(-3, -3), 3, false}, {of(0, 0), 0, true},
		{of(-most, most), most, true}, {of(-most, most), -most, true}, {of(-most, most), most + 1, false}, {of(-most, most), -most - 1, false},
		{of(-most, most), math.MaxInt, false}, {of(-most, most), math.MinInt, false}, {of(0, 0), math.MinInt, false}, {of(0, 0), math.MaxInt, false},
	} {
		if is, e := Has(x.s, x.n); is != x.is || e != api.OK {
			t.Errorf("Has(%v, %d): %v, %v", x.s, x.n, is, e)
		}
	}
	for _, s := range invalid() {
		for _, n := range []int{0, 1, s.Lo, s.Hi, most, math.MaxInt, math.MinInt} {
			if is, e := Has(s, n); is || e != api.ErrArg {
				t.Errorf("Has(%v, %d): %v, %v", s, n, is, e)
			}
		}
	}
}

func TestP2_1_Examples(t *testing.T) {
	for _, x := range []struct {
		name string
		f    binary
		a, b api.Span
		want api.Span
	}{
		{"Add", Add, of(-2, 3), of(10, 20), of(8, 23)},
		{"Add", Add, of(0, most), of(-1, 0), of(-1, most)},
		{"Add", Add, of(-most, -most), of(most, most), of(0, 0)},
		{"Add", Add, of(-most/2, most/2), of(-most/2, most/2), of(-most, most)},
		{"Sub", Sub, of(-2, 3), of(10, 20), of(-22, -7)},
		{"Sub", Sub, of(5, 5), of(5, 5), of(0, 0)},
		{"Sub", Sub, of(-2, 3), of(-2, 3), of(-5, 5)},
		{"Sub", Sub, of(-most, 0), of(-1, 0), of(-most, 1)},
		{"Sub", Sub, of(-most, -most), of(-most, -most), of(0, 0)},
		{"Join", Join, of(-2, 3), of(10, 20), of(-2, 20)},
		{"Join", Join, of(4, 5), of(1, 9), of(1, 9)},
		{"Join", Join, of(-most, -most), of(most, most), of(-most, most)},
		{"Times", Times, of(-5, 7), of(300, 1500), of(-8, 11)},
		{"Times", Times, of(4, 7), of(300, 1500), of(1, 11)},
		{"Times", Times, of(-9, -4), of(300, 1500), of(-14, -1)},
		{"Times", Times, of(-3, 3), of(0, 0), of(0, 0)},
		{"Times", Times, of(2, 5), of(1000, 1000), of(2, 5)},
		{"Times", Times, of(1, 1), of(1, 1), of(0, 1)},
		{"Times", Times, of(-1, -1), of(1, 1), of(-1, 0)},
		{"Times", Times, of(0, 0), of(0, 1000000), of(0, 0)},
		{"Times", Times, of(-1, 1), of(1000000, 1000000), of(-1000, 1000)},
		{"Times", Times, of(-1000000000, 1000000000), of(0, 1000000), of(-most, most)},
		{"Times", Times, of(-most, most), of(0, 1000), of(-most, most)},
		{"Times", Times, of(-most, most), of(999, 999), of(-999000000000, 999000000000)},
	} {
		if s, e := x.f(x.a, x.b); s != x.want || e != api.OK {
			t.Errorf("%s(%v, %v): %v, %v", x.name, x.a, x.b, s, e)
		}
	}
}

func TestP2_1_MeetExamples(t *testing.T) {
	for _, x := range []struct {
		a, b, want api.Span
		is         bool
	}{
		{of(0, 4), of(5, 9), of(0, 0), false}, {of(0, 5), of(5, 9), of(5, 5), true}, {of(0, 50), of(5, 9), of(5, 9), true}, {of(7, 50), of(5, 9), of(7, 9), true},
		{of(0, 0), of(0, 0), of(0, 0), true}, {of(-most, 0), of(1, most), of(0, 0), false}, {of(-most, 1), of(1, most), of(1, 1), true}, {of(-most, most), of(-most, most), of(-most, most), true},
	} {
		for _, y := range [][2]api.Span{{x.a, x.b}, {x.b, x.a}} {
			if s, is, e := Meet(y[0], y[1]); s != x.want || is != x.is || e != api.OK {
				t.Errorf("Meet of %v: %v, %v, %v", y, s, is, e)
			}
		}
	}
}

func TestP2_1_InvalidSpans(t *testing.T) {
	for name, f := range map[string]binary{"Add": Add, "Sub": Sub, "Join": Join, "Times": Times, "Meet": meet} {
		for _, bad := range invalid() {
			// Beside what is not valid, the second one would lead out of range, and the last one is no span either.
			for _, other := range []api.Span{of(0, 0), of(-most, most), of(1, 1000), bad, of(1, 0)} {
				for _, x := range [][2]api.Span{{bad, other}, {other, bad}} {
					if s, e := f(x[0], x[1]); s != of(0, 0) || e != api.ErrArg {
						t.Errorf("%s of %v: %v, %v", name, x, s, e)
					}
				}
			}
		}
	}
	for _, bad := range invalid() {
		if s, is, e := Meet(of(-most, most), bad); s != of(0, 0) || is || e != api.ErrArg {
			t.Errorf("Meet with %v: %v, %v, %v", bad, s, is, e)
		}
	}
}

func TestP2_1_InvalidParts(t *testing.T) {
	for _, bad := range []api.Span{of(-1, 5), of(-1, -1), of(-1000, 1000), of(0, 1000001), of(1000001, 1000001), of(1000001, most), of(-most, 0), of(-1, 1000001)} {
		for _, s := range []api.Span{of(1, 1), of(0, 0), of(-most, most)} {
			if r, e := Times(s, bad); r != of(0, 0) || e != api.ErrArg {
				t.Errorf("Times(%v, %v): %v, %v", s, bad, r, e)
			}
		}
	}
}

func TestP2_1_Range(t *testing.T) {
	for _, x := range []struct {
		name string
		f    binary
		a, b api.Span
	}{
		{"Add", Add, of(0, most), of(0, 1)}, {"Add", Add, of(-most, 0), of(-1, 0)}, {"Add", Add, of(-most, most), of(-most, most)}, {"Add", Add, of(most, most), of(most, most)},
		{"Sub", Sub, of(-most, 0), of(0, 1)}, {"Sub", Sub, of(0, most), of(-1, 0)}, {"Sub", Sub, of(-most, most), of(-most, most)}, {"Sub", Sub, of(most, most), of(-most, -most)},
		{"Times", Times, of(0, 1000000001), of(0, 1000000)}, {"Times", Times, of(-1000000001, 0), of(0, 1000000)}, {"Times", Times, of(0, most), of(0, 1001)}, {"Times", Times, of(-most, 0), of(0, 1001)}, {"Times", Times, of(-most, most), of(0, 1000000)},
	} {
		if s, e := x.f(x.a, x.b); s != of(0, 0) || e != api.ErrRange {
			t.Errorf("%s(%v, %v): %v, %v", x.name, x.a, x.b, s, e)
		}
	}
}

func TestP2_1_RangeIsExact(t *testing.T) {
	for _, a := range all() {
		for _, b := range all() {
			checkLimited(t, Add, a, b, of(a.Lo+b.Lo, a.Hi+b.Hi))
			checkLimited(t, Sub, a, b, of(a.Lo-b.Hi, a.Hi-b.Lo))
			checkLimited(t, Join, a, b, of(min(a.Lo, b.Lo), max(a.Hi, b.Hi)))
		}
	}
}

func checkLimited(t *testing.T, f binary, a, b, want api.Span) {
	t.Helper()
	e := api.OK
	if want.Lo < -most || want.Hi > most {
		want, e = api.Span{}, api.ErrRange
	}
	if s, got := f(a, b); s != want || got != e {
		t.Fatalf("%v, %v: %v, %v instead of %v, %v", a, b, s, got, want, e)
	}
}

func TestP2_2_Sums(t *testing.T) {
	for _, a := range small() {
		for _, b := range small() {
			sums := map[int]bool{}
			for n := a.Lo; n <= a.Hi; n++ {
				for m := b.Lo; m <= b.Hi; m++ {
					sums[n+m] = true
				}
			}
			s := must(t, Add, a, b)
			for n := -12; n <= 12; n++ {
				if has(s, n) != sums[n] {
					t.Fatalf("Add(%v, %v): %v, %d is a sum: %v", a, b, s, n, sums[n])
				}
			}
		}
	}
}

func TestP2_3_Differences(t *testing.T) {
	for _, a := range all() {
		for _, b := range all() {
			d, e := Sub(a, b)
			if e != api.OK {
				continue
			}
			if s, e := Add(d, b); e == api.OK && !within(a, s) {
				t.Fatalf("%v less %v is %v, and with it again %v", a, b, d, s)
			}
		}
		if d, e := Sub(a, a); e == api.OK && !has(d, 0) {
			t.Fatalf("%v less itself is %v", a, d)
		}
	}
}

func TestP2_3_AllDifferences(t *testing.T) {
	for _, a := range small() {
		for _, b := range small() {
			differences := map[int]bool{}
			for n := a.Lo; n <= a.Hi; n++ {
				for m := b.Lo; m <= b.Hi; m++ {
					differences[n-m] = true
				}
			}
			s := must(t, Sub, a, b)
			for n := -12; n <= 12; n++ {
				if has(s, n) != differences[n] {
					t.Fatalf("Sub(%v, %v): %v, %d is a difference: %v", a, b, s, n, differences[n])
				}
			}
			if back := must(t, Add, s, b); !within(a, back) {
				t.Fatalf("Sub(%v, %v) and back: %v", a, b, back)
			}
		}
		if !has(must(t, Sub, a, a), 0) {
			t.Fatalf("%v less itself has no 0", a)
		}
	}
}

func TestP2_4_Meeting(t *testing.T) {
	for _, a := range all() {
		for _, b := range all() {
			s, is, e := Meet(a, b)
			if e != api.OK {
				t.Fatalf("Meet(%v, %v): %v", a, b, e)
			}
			if apart := a.Hi < b.Lo || b.Hi < a.Lo; is == apart || apart && s != of(0, 0) {
				t.Fatalf("Meet(%v, %v): %v, %v", a, b, s, is)
			}
			for _, x := range []api.Span{a, b, of(-5, 5), of(0, 1)} {
				for _, n := range []int{x.Lo - 1, x.Lo, x.Lo + 1, x.Hi - 1, x.Hi, x.Hi + 1} {
					if both := has(a, n) && has(b, n); both != (is && has(s, n)) {
						t.Fatalf("Meet(%v, %v): %v, %v, but %d is in both: %v", a, b, s, is, n, both)
					}
				}
			}
		}
	}
}

func TestP2_5_Joining(t *testing.T) {
	for _, a := range all() {
		for _, b := range all() {
			s := must(t, Join, a, b)
			if !within(a, s) || !within(b, s) {
				t.Fatalf("Join(%v, %v): %v has not both", a, b, s)
			}
			if s.Lo != a.Lo && s.Lo != b.Lo || s.Hi != a.Hi && s.Hi != b.Hi {
				t.Fatalf("Join(%v, %v): %v has an end that is none of theirs", a, b, s)
			}
			if within(b, a) && s != a {
				t.Fatalf("Join(%v, %v): %v, although the first has the second", a, b, s)
			}
			if again := must(t, Join, s, a); again != s {
				t.Fatalf("Join(%v, %v): %v", s, a, again)
			}
		}
	}
}

// rounded finds both roundings of n * p / 1000 by big integers.
func rounded(n, p int) (down, up int) {
	q, rest := new(big.Int).DivMod(new(big.Int).Mul(big.NewInt(int64(n)), big.NewInt(int64(p))), big.NewInt(1000), new(big.Int))
	down = int(q.Int64())
	return down, down + rest.Sign()
}

func TestP2_6_Parts(t *testing.T) {
	spans := append(small(), of(999, 1003), of(-1003, -999), of(-2001, -1999), of(-40, 50))
	for _, s := range spans {
		for _, p := range []api.Span{of(0, 0), of(0, 12), of(1, 1), of(1, 30), of(995, 1004), of(1000, 1000), of(300, 340), of(1495, 1505), of(999990, 1000000), of(1000000, 1000000)} {
			checkParts(t, s, p, every(s), every(p))
		}
	}
}

func TestP2_6_PartsOfLargeSpans(t *testing.T) {
	for _, s := range large() {
		for _, p := range parts() {
			if _, e := Times(s, p); e == api.OK {
				checkParts(t, s, p, some(s), some(p))
			}
		}
	}
}

// every lists all that a span has.
func every(s api.Span) []int {
	var l []int
	for n := s.Lo; n <= s.Hi; n++ {
		l = append(l, n)
	}
	return l
}

// some lists some of what a span has, with its ends.
func some(s api.Span) []int {
	l := []int{s.Lo, s.Hi, s.Lo + (s.Hi-s.Lo)/2, s.Lo + (s.Hi-s.Lo)/3}
	for _, n := range []int{-1001, -1, 0, 1, 7, 999, s.Lo + 1, s.Hi - 1} {
		if has(s, n) {
			l = append(l, n)
		}
	}
	return l
}

func checkParts(t *testing.T, s, p api.Span, integers, thousandths []int) {
	t.Helper()
	r := must(t, Times, s, p)
	var least, greatest bool
	for _, n := range integers {
		for _, m := range thousandths {
			down, up := rounded(n, m)
			if !has(r, down) || !has(r, up) {
				t.Fatalf("Times(%v, %v): %v has not both of %d, %d", s, p, r, down, up)
			}
			least, greatest = least || down == r.Lo, greatest || up == r.Hi
		}
	}
	if !least || !greatest {
		t.Fatalf("Times(%v, %v): %v has an end that is no such value", s, p, r)
	}
}

// wider lists spans that a span is within.
func wider(s api.Span) []api.Span {
	return []api.Span{s, of(s.Lo-1, s.Hi), of(s.Lo, s.Hi+1), of(s.Lo-3, s.Hi+2), of(s.Lo-1000, s.Hi+1000), of(-1000000, 1000000)}
}

func TestP2_7_WiderSpans(t *testing.T) {
	for name, f := range map[string]binary{"Add": Add, "Sub": Sub, "Join": Join} {
		for _, a := range small() {
			for _, b := range small() {
				s := must(t, f, a, b)
				for _, w := range wider(a) {
					if r := must(t, f, w, b); !within(s, r) {
						t.Fatalf("%s(%v, %v): %v, but of %v: %v", name, a, b, s, w, r)
					}
				}
				for _, w := range wider(b) {
					if r := must(t, f, a, w); !within(s, r) {
						t.Fatalf("%s(%v, %v): %v, but of %v: %v", name, a, b, s, w, r)
					}
				}
			}
		}
	}
}

func TestP2_7_WiderSpansNearTheEnds(t *testing.T) {
	for name, f := range map[string]binary{"Add": Add, "Sub": Sub, "Join": Join, "Times": Times} {
		for _, a := range large() {
			for _, w := range large() {
				for _, b := range append(parts(), large()...) {
					s, e := f(a, b)
					r, g := f(w, b)
					if e == api.OK && g == api.OK && within(a, w) && !within(s, r) {
						t.Fatalf("%s(%v, %v): %v, but of %v: %v", name, a, b, s, w, r)
					}
				}
			}
		}
	}
}

func TestP2_7_WiderParts(t *testing.T) {
	for _, s := range small() {
		for _, p := range parts() {
			r := must(t, Times, s, p)
			for _, w := range wider(s) {
				if q := must(t, Times, w, p); !within(r, q) {
					t.Fatalf("Times(%v, %v): %v, but of %v: %v", s, p, r, w, q)
				}
			}
			for _, w := range parts() {
				if q := must(t, Times, s, w); within(p, w) && !within(r, q) {
					t.Fatalf("Times(%v, %v): %v, but of %v: %v", s, p, r, w, q)
				}
			}
		}
	}
}

func TestP1_AllArgumentsEnd(t *testing.T) {
	spans := append(append(invalid(), large()...), parts()...)
	for _, a := range spans {
		for _, b := range spans {
			for name, f := range map[string]binary{"Add": Add, "Sub": Sub, "Join": Join, "Times": Times, "Meet": meet} {
				s, e := f(a, b)
				if e != api.OK && s != of(0, 0) {
					t.Errorf("%s(%v, %v): %v beside %v", name, a, b, s, e)
				}
				if (e == api.ErrArg) != (!Valid(a) || !Valid(b) || name == "Times" && (b.Lo < 0 || b.Hi > api.MaxID)) {
					t.Errorf("%s(%v, %v): %v", name, a, b, e)
				}
				if e == api.OK && !Valid(s) {
					t.Errorf("%s(%v, %v): %v is not valid", name, a, b, s)
				}
			}
		}
	}
}
