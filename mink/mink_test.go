package mink

import (
	"math"
	"slices"
	"testing"

	"landfall/api"
	"landfall/hull"
)

// ifSum returns a sum, and whether there is one, or a corner of it would be no place.
func ifSum(t *testing.T, p, q []api.Point) ([]api.Point, bool) {
	t.Helper()
	s, e := Sum(p, q)
	if e == api.ErrRange && len(s) == 0 {
		return nil, false
	}
	if e != api.OK || !hull.Valid(s) {
		t.Fatalf("Sum(%v, %v): %v, %v", p, q, s, e)
	}
	return s, true
}

// ifShift returns a shifted polygon, and whether there is one, or a corner of it would be no place.
func ifShift(t *testing.T, p []api.Point, by api.Point) ([]api.Point, bool) {
	t.Helper()
	s, e := Shift(p, by)
	if e == api.ErrRange && len(s) == 0 {
		return nil, false
	}
	if e != api.OK || !hull.Valid(s) {
		t.Fatalf("Shift(%v, %v): %v, %v", p, by, s, e)
	}
	return s, true
}

func mustMirror(t *testing.T, p []api.Point) []api.Point {
	t.Helper()
	m, e := Mirror(p)
	if e != api.OK || !hull.Valid(m) {
		t.Fatalf("Mirror(%v): %v, %v", p, m, e)
	}
	return m
}

func mustDisk(t *testing.T, n int) []api.Point {
	t.Helper()
	p, e := Disk(n)
	if e != api.OK || !hull.Valid(p) {
		t.Fatalf("Disk(%d): %v, %v", n, p, e)
	}
	return p
}

func mustHave(t *testing.T, p []api.Point, x api.Point) bool {
	t.Helper()
	is, e := hull.Has(p, x)
	if e != api.OK {
		t.Fatalf("hull.Has(%v, %v): %v", p, x, e)
	}
	return is
}

func TestP6_1_SumExamples(t *testing.T) {
	triangle := at(0, 0, 4, 0, 0, 3)
	for _, x := range []struct{ p, q, want []api.Point }{
		{at(0, 0, 2, 0, 0, 2), at(0, 0, 1, 1), at(0, 0, 2, 0, 3, 1, 1, 3, 0, 2)},
		// Single places.
		{at(1, 2), at(3, -4), at(4, -2)}, {at(0, 0), at(0, 0), at(0, 0)}, {at(-5, 7), triangle, at(-5, 7, -1, 7, -5, 10)}, {at(-5, 7), at(0, 3, 4, 1), at(-5, 10, -1, 8)}, {at(1, 1), at(0, 0, 0, 3), at(1, 1, 1, 4)},
		// Lines: on the axes, with the same direction, and with different ones.
		{at(0, 0, 3, 0), at(1, 1, 6, 1), at(1, 1, 9, 1)}, {at(0, 0, 0, 3), at(0, 0, 0, 5), at(0, 0, 0, 8)}, {at(0, 0, 2, 1), at(0, 0, 4, 2), at(0, 0, 6, 3)}, {at(0, 4, 2, 0), at(-1, 6, 3, -2), at(-1, 10, 5, -2)},
		{at(0, 0, 3, 0), at(0, 0, 0, 2), at(0, 0, 3, 0, 3, 2, 0, 2)}, {at(0, 0, 2, 1), at(0, 0, 2, -1), at(0, 0, 2, -1, 4, 0, 2, 1)}, {at(0, 0, 2, 1), at(0, 0, 3, 1), at(0, 0, 3, 1, 5, 2, 2, 1)}, {at(0, 0, 0, 2), at(0, 0, 1, -5), at(0, 0, 1, -5, 1, -3, 0, 2)},
		// All sides, some, one, or none have the same directions.
		{triangle, triangle, at(0, 0, 8, 0, 0, 6)}, {triangle, at(0, 0, 1, 0, 1, 1, 0, 1), at(0, 0, 5, 0, 5, 1, 1, 4, 0, 4)}, {triangle, at(0, 0, 8, -6), at(0, 0, 8, -6, 12, -6, 0, 3)}, {triangle, at(0, 3, 4, 0), at(0, 3, 4, 0, 8, 0, 0, 6)}, {triangle, at(0, 0, 5, 1, 1, 5), at(0, 0, 4, 0, 9, 1, 5, 5, 1, 8, 0, 3)},
		// One with its mirror: six corners, around 0, 0.
		{triangle, at(-4, 0, 0, -3, 0, 0), at(-4, 0, 0, -3, 4, -3, 4, 0, 0, 3, -4, 3)},
		// Sides that go straight up, or down, or back, on one or both.
		{at(0, 0, 5, 0, 5, 9), at(0, 0, 5, 0, 5, 2), at(0, 0, 10, 0, 10, 11, 5, 9)}, {at(0, 0, 1, 4, 0, 9), at(0, 0, 2, 0, 0, 1), at(0, 0, 2, 0, 3, 4, 2, 9, 0, 10)}, {at(0, 0, 1, 4, 0, 9), at(0, 0, 1, 1, 1, 2), at(0, 0, 1, 1, 2, 5, 2, 6, 1, 11, 0, 9)},
	} {
		for _, l := range [][2][]api.Point{{x.p, x.q}, {x.q, x.p}} {
			if s, e := Sum(l[0], l[1]); !slices.Equal(s, x.want) || e != api.OK {
				t.Errorf("Sum(%v, %v): %v, %v instead of %v", l[0], l[1], s, e, x.want)
			}
		}
	}
}

func TestP6_1_SumIsExact(t *testing.T) {
	tooMany, noPlace := 0, 0
	eachPair(t, func(p, q []api.Point) {
		want, wide, no := added(t, p, q)
		if s, e := Sum(p, q); !slices.Equal(s, want) || e != no {
			t.Fatalf("Sum(%v, %v): %v, %v instead of %v, %v", p, q, s, e, want, no)
		}
		if wide {
			tooMany++
		}
		if no == api.ErrRange {
			noPlace++
		}
	})
	if tooMany < 100 || noPlace < 100 {
		t.Errorf("only %d sums with too many corners, and %d with one that is no place", tooMany, noPlace)
	}
}

func TestP6_1_SumOfAllTinyPolygons(t *testing.T) {
	l := tiny(t)
	for _, p := range l {
		for _, q := range l {
			want, _, _ := added(t, p, q)
			if s, e := Sum(p, q); !slices.Equal(s, want) || e != api.OK {
				t.Fatalf("Sum(%v, %v): %v, %v instead of %v", p, q, s, e, want)
			}
		}
	}
}

// With 64 corners the sum is as it is; with 65 its eight-sided hull stands for it.
func TestP6_1_SumWithTooManyCorners(t *testing.T) {
	line := at(0, 0, 1, 0)
	for _, x := range []struct{ p, q, want []api.Point }{
		// A line adds two sides, or, if there is a side with its direction or the opposite one, one; if there are both, none.
		{parabola(62), line, slices.Concat(at(0, 0), shiftedBy(parabola(62), 1, 0), at(61, 3721))},
		{parabola(63), line, at(0, 0, 1, 0, 63, 62, 63, 3844, 62, 3844, 0, 3782)},
		{parabola(64), at(0, 0, 63, 3969), slices.Concat(parabola(32), shiftedBy(parabola(64)[32:], 63, 3969))},
		{parabola(63), at(0, 0, 62, 3844), slices.Concat(parabola(32), shiftedBy(parabola(63)[31:], 62, 3844))},
		{parabola(64), at(0, 0, 1, 1), at(0, 0, 64, 64, 64, 3970, 0, 3906)},
		{parabola(64), at(3, -4), shiftedBy(parabola(64), 3, -4)}, {parabola(64), parabola(64), scaledBy(parabola(64), 2)},
		{round(0, 0, 1), at(0, 0, 0, 8), slices.Concat(round(0, 0, 1)[:32], shiftedBy(round(0, 0, 1)[32:], 0, 8))},
		{round(0, 0, 1), at(0, 0, 1, 9), at(-82, -28, -28, -82, 28, -82, 83, -27, 83, 37, 29, 91, -27, 91, -82, 36)},
	} {
		for _, l := range [][2][]api.Point{{x.p, x.q}, {x.q, x.p}} {
			if s, e := Sum(l[0], l[1]); !slices.Equal(s, x.want) || e != api.OK {
				t.Errorf("Sum(%v, %v): %v, %v instead of %v", l[0], l[1], s, e, x.want)
			}
		}
	}
}

func shiftedBy(p []api.Point, x, y int) []api.Point {
	var l []api.Point
	for _, c := range p {
		l = append(l, api.Point{X: c.X + x, Y: c.Y + y})
	}
	return l
}

func scaledBy(p []api.Point, n int) []api.Point {
	var l []api.Point
	for _, c := range p {
		l = append(l, api.Point{X: c.X * n, Y: c.Y * n})
	}
	return l
}

func TestP6_1_SumBeyondPlaces(t *testing.T) {
	many, other := round(0, 0, 3000), turned(t, round(0, 0, 2600))
	for _, x := range []struct {
		p, q []api.Point
		e    api.Errno
	}{
		{at(most, 0), at(0, 0), api.OK}, {at(most, 0), at(1, 0), api.ErrRange}, {at(most-1, 0), at(1, 0), api.OK}, {at(most, 0), at(-1, 0), api.OK}, {at(-most, 0), at(-1, 0), api.ErrRange}, {at(1-most, 0), at(-1, 0), api.OK},
		{at(0, most), at(0, 1), api.ErrRange}, {at(0, most-1), at(0, 1), api.OK}, {at(0, -most), at(0, -1), api.ErrRange}, {at(0, 1-most), at(0, -1), api.OK}, {at(most, most), at(most, most), api.ErrRange}, {at(-most, -most), at(most, most), api.OK},
		// Only one corner of the sum is no place.
		{at(0, -most), at(0, -1, 0, 5), api.ErrRange}, {at(-most, 0, most, 1), at(-1, 0, 1, 1), api.ErrRange}, {at(0, 0, most, 0, 0, most), at(0, 0, 1, 0), api.ErrRange}, {at(0, 0, most, 0, 0, most), at(0, 0, 0, 1), api.ErrRange}, {at(0, 0, most, 0, 0, most), at(-1, 0, 0, -1), api.OK},
		// It would have too many corners, too.
		{parabola(64), at(most-63, 0, most-62, 1), api.ErrRange}, {parabola(64), at(most-64, 0, most-63, 1), api.OK}, {parabola(64), at(0, most-3969, 1, most-3968), api.ErrRange}, {parabola(64), at(0, most-3970, 1, most-3969), api.OK},
		{parabola(64), at(-most, -1, 1-most, 1), api.OK}, {parabola(64), at(-1, -most, 1, 1-most), api.OK}, {opposite(t, parabola(64)), at(62-most, 0, 63-most, 1), api.ErrRange}, {opposite(t, parabola(64)), at(0, 3968-most, 1, 3969-most), api.ErrRange},
		{many, other, api.OK}, {round(200000, 0, 3000), other, api.ErrRange}, {round(0, -200000, 3000), other, api.ErrRange},
	} {
		for _, l := range [][2][]api.Point{{x.p, x.q}, {x.q, x.p}} {
			if s, e := Sum(l[0], l[1]); e != x.e || (len(s) > 0) != (e == api.OK) {
				t.Errorf("Sum(%v, %v): %v, %v instead of %v", l[0], l[1], s, e, x.e)
			}
		}
	}
}

func TestP6_1_ShiftExamples(t *testing.T) {
	sea := at(-most, -most, most, -most, most, most, -most, most)
	for _, x := range []struct {
		p    []api.Point
		by   api.Point
		want []api.Point
	}{
		{at(0, 0, 4, 0, 0, 3), api.Point{X: -5, Y: 2}, at(-5, 2, -1, 2, -5, 5)}, {at(0, 0, 4, 0, 0, 3), api.Point{}, at(0, 0, 4, 0, 0, 3)}, {at(3, 4), api.Point{X: 1, Y: -9}, at(4, -5)}, {at(3, 4, 5, -6), api.Point{X: -4, Y: 1}, at(-1, 5, 1, -5)},
		{sea, api.Point{}, sea}, {at(-most, -most), api.Point{X: most, Y: most}, at(0, 0)}, {at(most, -most), api.Point{X: -most, Y: most}, at(0, 0)}, {at(-most, 0, 0, 0), api.Point{X: most}, at(0, 0, most, 0)}, {at(0, -most, 0, 0), api.Point{Y: most}, at(0, 0, 0, most)},
		{at(0, 0, 1, 0), api.Point{X: most - 1}, at(most-1, 0, most, 0)}, {at(-1, -1, 0, 0), api.Point{X: 1 - most, Y: 1 - most}, at(-most, -most, 1-most, 1-most)}, {round(0, 0, 5), api.Point{X: 77, Y: -3}, round(77, -3, 5)},
	} {
		if p, e := Shift(x.p, x.by); !slices.Equal(p, x.want) || e != api.OK {
			t.Errorf("Shift(%v, %v): %v, %v instead of %v", x.p, x.by, p, e, x.want)
		}
	}
}

func TestP6_1_ShiftIsExact(t *testing.T) {
	for _, l := range [][][]api.Point{tiny(t), small(t), large(t), curved(t)} {
		for _, p := range l {
			for _, by := range append(square(-2, 2), at(most, 0, 0, most, -most, -most, most/2, -most/2)...) {
				want := shiftedBy(p, by.X, by.Y)
				in := !slices.ContainsFunc(want, func(c api.Point) bool { return max(c.X, -c.X, c.Y, -c.Y) > most })
				if s, ok := ifShift(t, p, by); ok != in || ok && !slices.Equal(s, want) {
					t.Fatalf("Shift(%v, %v): %v instead of %v", p, by, s, want)
				}
			}
		}
	}
}

func TestP6_1_ShiftErrors(t *testing.T) {
	for _, x := range []struct {
		p  []api.Point
		by api.Point
	}{
		{at(most, 0), api.Point{X: 1}}, {at(0, most), api.Point{Y: 1}}, {at(-most, 0), api.Point{X: -1}}, {at(0, -most), api.Point{Y: -1}}, {at(0, 0, 1, 0), api.Point{X: most}}, {at(0, -1, 1, 0), api.Point{Y: -most}},
		{at(0, 0, 4, 0, 0, 3), api.Point{X: most - 3}}, {at(0, 0, 4, 0, 0, 3), api.Point{Y: most - 2}}, {at(most, most), api.Point{X: most, Y: most}},
	} {
		if p, e := Shift(x.p, x.by); len(p) != 0 || e != api.ErrRange {
			t.Errorf("Shift(%v, %v): %v, %v", x.p, x.by, p, e)
		}
	}
	for _, by := range none() {
		for _, p := range [][]api.Point{at(0, 0), at(0, 0, 4, 0, 0, 3), at(most, most), at(-most, -most), nil} {
			if p, e := Shift(p, by); len(p) != 0 || e != api.ErrArg {
				t.Errorf("Shift(%v, %v): %v, %v", p, by, p, e)
			}
		}
	}
}

func TestP6_1_MirrorExamples(t *testing.T) {
	for _, x := range []struct{ p, want []api.Point }{
		{at(3, 4), at(-3, -4)}, {at(0, 0), at(0, 0)}, {at(1, 2, 3, 9), at(-3, -9, -1, -2)}, {at(-1, 2, 1, -2), at(-1, 2, 1, -2)}, {at(0, 1, 0, 5), at(0, -5, 0, -1)},
		{at(0, 0, 4, 0, 0, 3), at(-4, 0, 0, -3, 0, 0)}, {at(0, 0, 4, 0, 4, 3), at(-4, -3, 0, 0, -4, 0)}, {at(-2, -2, 2, -2, 2, 2, -2, 2), at(-2, -2, 2, -2, 2, 2, -2, 2)}, {at(0, 0, 2, -1, 5, 0, 5, 3), at(-5, -3, 0, 0, -2, 1, -5, 0)},
		{at(most, -most), at(-most, most)}, {at(-most, -most, most, -most, -most, most), at(-most, most, most, -most, most, most)}, {round(0, 0, 7), round(0, 0, 7)}, {round(5, -9, 7), round(-5, 9, 7)},
	} {
		if p, e := Mirror(x.p); !slices.Equal(p, x.want) || e != api.OK {
			t.Errorf("Mirror(%v): %v, %v instead of %v", x.p, p, e, x.want)
		}
	}
}

func TestP6_1_MirrorIsExact(t *testing.T) {
	for _, l := range [][][]api.Point{tiny(t), small(t), large(t), curved(t)} {
		for _, p := range l {
			if m, want := mustMirror(t, p), opposite(t, p); !slices.Equal(m, want) {
				t.Fatalf("Mirror(%v): %v instead of %v", p, m, want)
			}
		}
	}
}

func TestP6_1_DiskExamples(t *testing.T) {
	for _, x := range []struct {
		n    int
		want []api.Point
	}{
		{0, at(0, 0)}, {1, at(-1, -1, 1, -1, 1, 1, -1, 1)}, {2, at(-2, -1, -1, -2, 1, -2, 2, -1, 2, 1, 1, 2, -1, 2, -2, 1)}, {3, at(-3, -2, -2, -3, 2, -3, 3, -2, 3, 2, 2, 3, -2, 3, -3, 2)}, {5, at(-5, -3, -3, -5, 3, -5, 5, -3, 5, 3, 3, 5, -3, 5, -5, 3)},
		{100000, at(-100000, -41422, -41422, -100000, 41422, -100000, 100000, -41422, 100000, 41422, 41422, 100000, -41422, 100000, -100000, 41422)},
	} {
		if p, e := Disk(x.n); !slices.Equal(p, x.want) || e != api.OK {
			t.Errorf("Disk(%d): %v, %v instead of %v", x.n, p, e, x.want)
		}
	}
	for _, n := range []int{-1, -2, -100000, 100001, api.MaxCoord, api.MaxSpan, math.MaxInt, math.MinInt} {
		if p, e := Disk(n); len(p) != 0 || e != api.ErrArg {
			t.Errorf("Disk(%d): %v, %v", n, p, e)
		}
	}
}

// In each of its eight directions a disk reaches to where the chapter says, with corners on these sides; and it has no other sides.
func TestP6_1_DisksOfAllSizes(t *testing.T) {
	m := 0
	for n := range api.MaxDist + 1 {
		for m*m < 2*n*n {
			m++
		}
		p := mustDisk(t, n)
		for _, way := range at(1, 0, 0, 1, -1, 0, 0, -1) {
			if far := reach(p, way); far != n {
				t.Fatalf("Disk(%d): %d in direction %v", n, far, way)
			}
		}
		for _, way := range at(1, 1, -1, 1, -1, -1, 1, -1) {
			if far := reach(p, way); far != m {
				t.Fatalf("Disk(%d): %d instead of %d in direction %v", n, far, m, way)
			}
		}
		if q, e := hull.Eight(p); !slices.Equal(p, q) || e != api.OK {
			t.Fatalf("Disk(%d): %v has other sides", n, p)
		}
	}
}

func TestP6_1_DiskIsExact(t *testing.T) {
	m := 0
	for n := range 30 {
		for m*m < 2*n*n {
			m++
		}
		p := mustDisk(t, n)
		for _, x := range square(-n-3, n+3) {
			want := max(x.X, -x.X, x.Y, -x.Y) <= n && max(x.X+x.Y, -x.X-x.Y, x.X-x.Y, x.Y-x.X) <= m
			if is := mustHave(t, p, x); is != want {
				t.Fatalf("Disk(%d) has %v: %v", n, x, is)
			}
		}
	}
}

func TestP6_1_NoPolygon(t *testing.T) {
	for _, p := range noPolygons() {
		for _, q := range [][]api.Point{at(0, 0), at(most, most), at(0, 0, 4, 0, 0, 3), round(0, 0, 3000), nil, p} {
			if s, e := Sum(p, q); len(s) != 0 || e != api.ErrArg {
				t.Errorf("Sum(%v, %v): %v, %v", p, q, s, e)
			}
			if s, e := Sum(q, p); len(s) != 0 || e != api.ErrArg {
				t.Errorf("Sum(%v, %v): %v, %v", q, p, s, e)
			}
		}
		for _, by := range append(at(0, 0, 1, 1, most, most, -most, -most), none()...) {
			if s, e := Shift(p, by); len(s) != 0 || e != api.ErrArg {
				t.Errorf("Shift(%v, %v): %v, %v", p, by, s, e)
			}
		}
		if s, e := Mirror(p); len(s) != 0 || e != api.ErrArg {
			t.Errorf("Mirror(%v): %v, %v", p, s, e)
		}
	}
}

// Neither a call nor what is done with its result changes an argument.
func TestP6_1_ArgumentsStay(t *testing.T) {
	calls := map[string]func(p, q []api.Point) []api.Point{
		"Sum":    func(p, q []api.Point) []api.Point { s, _ := Sum(p, q); return s },
		"Shift":  func(p, q []api.Point) []api.Point { s, _ := Shift(p, q[0]); return s },
		"Mirror": func(p, q []api.Point) []api.Point { s, _ := Mirror(p); return s },
	}
	for name, call := range calls {
		for _, l := range [][2][]api.Point{{at(3, 4), at(0, 0)}, {at(0, 0), at(3, 4)}, {at(0, 0), at(0, 0)}, {at(-1, 0, 1, 0), at(0, 0)}, {at(0, 0), at(-1, 0, 1, 0)}, {at(-2, -2, 2, -2, 2, 2, -2, 2), at(0, 0)}, {at(0, 0, 4, 0, 0, 3), at(1, 1, 3, 1)}, {round(0, 0, 1), parabola(64)}, {round(0, 0, 1), at(0, 0)}} {
			p, q := append(slices.Clone(l[0]), api.Point{X: 99})[:len(l[0])], append(slices.Clone(l[1]), api.Point{X: 99})[:len(l[1])]
			s := call(p, q)
			for i := range s {
				s[i] = api.Point{X: 77, Y: 77}
			}
			_ = append(s, api.Point{X: 77, Y: 77})
			if !slices.Equal(p, l[0]) || !slices.Equal(q, l[1]) || p[:len(p)+1][len(p)].X != 99 || q[:len(q)+1][len(q)].X != 99 {
				t.Errorf("%s(%v, %v) left %v, %v", name, l[0], l[1], p, q)
			}
		}
	}
}

func TestP6_2_AllSums(t *testing.T) {
	l := small(t)
	for _, p := range l {
		for _, q := range l {
			checkSums(t, p, q, inside(p), inside(q))
		}
	}
}

func TestP6_2_AllSumsFarAwayAndWithManyCorners(t *testing.T) {
	eachPair(t, func(p, q []api.Point) { checkSums(t, p, q, some(p), some(q)) })
}

// checkSums checks that a sum has the sums of places that the polygons have.
func checkSums(t *testing.T, p, q, l, k []api.Point) {
	t.Helper()
	s, ok := ifSum(t, p, q)
	if !ok {
		return
	}
	for _, x := range l {
		for _, y := range k {
			if z := (api.Point{X: x.X + y.X, Y: x.Y + y.Y}); !has(s, z) {
				t.Fatalf("Sum(%v, %v): %v has not %v", p, q, s, z)
			}
		}
	}
}

func TestP6_3_NothingElse(t *testing.T) {
	checked := 0
	eachPair(t, func(p, q []api.Point) {
		s, ok := ifSum(t, p, q)
		if _, tooMany, _ := added(t, p, q); !ok || tooMany {
			return
		}
		for _, way := range directions(p, q, s) {
			if far, both := reach(s, way), reach(p, way)+reach(q, way); far != both {
				t.Fatalf("Sum(%v, %v): %v reaches %d instead of %d in direction %v", p, q, s, far, both, way)
			}
		}
		checked++
	})
	if checked < 1000 {
		t.Errorf("only %d sums are checked", checked)
	}
}

// With too many corners this holds in eight directions, and there are no other sides.
func TestP6_3_NothingElseInEightDirections(t *testing.T) {
	checked := 0
	eachPair(t, func(p, q []api.Point) {
		if _, tooMany, _ := added(t, p, q); !tooMany {
			return
		}
		s, _ := ifSum(t, p, q)
		for _, way := range at(1, 0, 1, 1, 0, 1, -1, 1, -1, 0, -1, -1, 0, -1, 1, -1) {
			if far, both := reach(s, way), reach(p, way)+reach(q, way); far != both {
				t.Fatalf("Sum(%v, %v): %v reaches %d instead of %d in direction %v", p, q, s, far, both, way)
			}
		}
		if l, e := hull.Eight(s); !slices.Equal(s, l) || e != api.OK {
			t.Fatalf("Sum(%v, %v): %v has other sides", p, q, s)
		}
		checked++
	})
	if checked < 100 {
		t.Errorf("only %d sums are checked", checked)
	}
}

func TestP6_4_EitherFirst(t *testing.T) {
	eachPair(t, func(p, q []api.Point) {
		s, ok := ifSum(t, p, q)
		back, is := ifSum(t, q, p)
		if ok != is || !slices.Equal(s, back) {
			t.Fatalf("Sum(%v, %v): %v, the other way round: %v", p, q, s, back)
		}
	})
}

func TestP6_4_ThreePolygons(t *testing.T) {
	for _, l := range [][][]api.Point{third(tiny(t)), third(small(t)), third(large(t)), third(curved(t))} {
		checked := 0
		for _, p := range l {
			for _, q := range l {
				for _, r := range l {
					if checkThree(t, p, q, r) {
						checked++
					}
				}
			}
		}
		if checked < 100 {
			t.Errorf("only %d sums of three are checked", checked)
		}
	}
}

// third has every third polygon of a list.
func third(l [][]api.Point) [][]api.Point {
	var out [][]api.Point
	for i := 1; i < len(l); i += 3 {
		out = append(out, l[i])
	}
	return out
}

// checkThree adds three polygons in both ways, and reports whether it has compared the sums, as there are all of them, and none has too many corners.
func checkThree(t *testing.T, p, q, r []api.Point) bool {
	t.Helper()
	add := func(a, b []api.Point) []api.Point {
		if a == nil || b == nil {
			return nil
		}
		s, e := Sum(a, b)
		// A sum has at least as many corners as each polygon: only its eight-sided hull has less.
		if e != api.OK || len(s) < max(len(a), len(b)) {
			return nil
		}
		return s
	}
	first, last := add(add(p, q), r), add(p, add(q, r))
	if first == nil || last == nil {
		return false
	}
	if !slices.Equal(first, last) {
		t.Fatalf("the sum of %v, %v and %v: %v, or %v", p, q, r, first, last)
	}
	return true
}

func TestP6_5_SinglePlaces(t *testing.T) {
	for _, l := range [][][]api.Point{tiny(t), small(t), large(t), curved(t)} {
		for _, p := range l {
			for _, by := range append(square(-2, 2), at(most, 0, 0, most, -most, -most, most/2, -most/2)...) {
				want, in := ifShift(t, p, by)
				s, ok := ifSum(t, p, []api.Point{by})
				back, is := ifSum(t, []api.Point{by}, p)
				if ok != in || is != in || !slices.Equal(s, want) || !slices.Equal(back, want) {
					t.Fatalf("%v and %v: added %v, or %v, shifted %v", p, by, s, back, want)
				}
			}
		}
	}
}

func TestP6_5_ShiftedSums(t *testing.T) {
	checked := 0
	eachPair(t, func(p, q []api.Point) {
		s, ok := ifSum(t, p, q)
		for _, by := range at(1, 0, -3, 2, 777, -12345, most/2, most/3) {
			shifted, in := ifShift(t, p, by)
			if !ok || !in {
				continue
			}
			want, in := ifShift(t, s, by)
			first, is := ifSum(t, shifted, q)
			last, as := ifSum(t, q, shifted)
			if is != in || as != in || !slices.Equal(first, want) || !slices.Equal(last, want) {
				t.Fatalf("%v and %v, shifted by %v: %v, or %v, instead of %v", p, q, by, first, last, want)
			}
			checked++
		}
	})
	if checked < 10000 {
		t.Errorf("only %d shifted sums are checked", checked)
	}
}

func TestP6_6_MirroredTwice(t *testing.T) {
	for _, l := range [][][]api.Point{tiny(t), small(t), large(t), curved(t)} {
		for _, p := range l {
			if back := mustMirror(t, mustMirror(t, p)); !slices.Equal(back, p) {
				t.Fatalf("%v, mirrored twice: %v", p, back)
			}
		}
	}
}

func TestP6_6_OppositePlaces(t *testing.T) {
	for _, l := range [][][]api.Point{tiny(t), small(t)} {
		for _, p := range l {
			checkOpposite(t, p, square(-7, 7))
		}
	}
	for _, l := range [][][]api.Point{large(t), curved(t)} {
		for _, p := range l {
			checkOpposite(t, p, slices.Concat(some(p), some(mustMirror(t, p)), square(-1, 1)))
		}
	}
}

func checkOpposite(t *testing.T, p, places []api.Point) {
	t.Helper()
	m := mustMirror(t, p)
	for _, x := range places {
		if is, mirrored := mustHave(t, p, x), mustHave(t, m, api.Point{X: -x.X, Y: -x.Y}); is != mirrored {
			t.Fatalf("%v has %v: %v, its mirror %v the opposite one: %v", p, x, is, m, mirrored)
		}
	}
}

func TestP6_6_SumWithTheMirror(t *testing.T) {
	for _, l := range [][][]api.Point{tiny(t), small(t), large(t), curved(t)} {
		checked := 0
		for _, p := range l {
			m := mustMirror(t, p)
			for _, k := range [][2][]api.Point{{p, m}, {m, p}} {
				if s, ok := ifSum(t, k[0], k[1]); ok {
					checked++
					if !mustHave(t, s, api.Point{}) {
						t.Fatalf("Sum(%v, %v): %v has not 0, 0", k[0], k[1], s)
					}
				}
			}
		}
		if checked < len(l)/2 {
			t.Errorf("only %d of %d sums are checked", checked, 2*len(l))
		}
	}
}

func TestP6_7_NearPlaces(t *testing.T) {
	for n := range 41 {
		p := mustDisk(t, n)
		for _, x := range square(-n-3, n+3) {
			is := mustHave(t, p, x)
			if x.X*x.X+x.Y*x.Y <= n*n && !is {
				t.Fatalf("Disk(%d) has not %v", n, x)
			}
			if max(x.X, -x.X, x.Y, -x.Y) > n && is {
				t.Fatalf("Disk(%d) has %v", n, x)
			}
		}
	}
}

// The places that are just near enough, all around, and those that are just too far in X or in Y.
func TestP6_7_NearPlacesOfLargeDisks(t *testing.T) {
	for _, n := range []int{99, 100, 707, 1000, 4097, 33461, 70711, 99999, 100000} {
		p := mustDisk(t, n)
		for x := -n; x <= n; x += max(1, n/500) {
			y := int(math.Sqrt(float64(n*n - x*x)))
			for y*y > n*n-x*x {
				y--
			}
			for _, c := range at(x, y, x, -y, y, x, -y, x) {
				if !mustHave(t, p, c) {
					t.Fatalf("Disk(%d) has not %v", n, c)
				}
			}
			for _, c := range at(x, n+1, x, -n-1, n+1, x, -n-1, x) {
				if mustHave(t, p, c) {
					t.Fatalf("Disk(%d) has %v", n, c)
				}
			}
		}
	}
}

func TestP6_7_SumsOfDisks(t *testing.T) {
	check := func(a, b int) {
		s, ok := ifSum(t, mustDisk(t, a), mustDisk(t, b))
		if !ok {
			t.Fatalf("disks of %d and %d: no sum", a, b)
		}
		for _, c := range mustDisk(t, a+b) {
			if !mustHave(t, s, c) {
				t.Fatalf("disks of %d and %d: %v has not %v", a, b, s, c)
			}
		}
	}
	for a := range 60 {
		for b := range 60 {
			check(a, b)
		}
	}
	for _, a := range []int{0, 1, 2, 12, 707, 29, 169, 985, 5741, 33461, 49999, 50000} {
		for _, b := range []int{0, 1, 5, 29, 408, 1000, 33462, 49999, 50000} {
			check(a, b)
		}
	}
}

func TestP1_AllArgumentsEnd(t *testing.T) {
	numbers := []int{0, 1, -1, 2, 99999, 100000, 100001, most, -most, most + 1, -most - 1, api.MaxSpan, math.MaxInt, math.MinInt, math.MaxInt - 1, math.MinInt + 1}
	var points []api.Point
	for _, x := range numbers {
		for _, y := range numbers {
			points = append(points, api.Point{X: x, Y: y})
		}
	}
	lists := append(noPolygons(), slices.Concat(large(t)[30:], curved(t))...)
	for _, x := range points {
		lists = append(lists, []api.Point{x}, []api.Point{{}, x})
	}
	empty := func(p []api.Point, e api.Errno) {
		if (e == api.OK) != hull.Valid(p) || (e == api.OK) != (len(p) > 0) || e != api.OK && e != api.ErrArg && e != api.ErrRange {
			t.Fatalf("%v, %v", p, e)
		}
	}
	for _, p := range lists {
		for _, q := range lists {
			empty(Sum(p, q))
		}
		for _, by := range points {
			empty(Shift(p, by))
		}
		empty(Mirror(p))
	}
	for _, n := range numbers {
		empty(Disk(n))
	}
}

// The same arguments lead to the same result, whatever was called before.
func TestP1_ArgumentsAlone(t *testing.T) {
	l := small(t)
	var before [][]api.Point
	for i, p := range l {
		s, _ := ifSum(t, p, l[len(l)-1-i])
		before = append(before, s)
	}
	for i := range l {
		i = len(l) - 1 - i
		if s, _ := ifSum(t, l[i], l[len(l)-1-i]); !slices.Equal(s, before[i]) {
			t.Fatalf("Sum(%v, %v): %v, and before %v", l[i], l[len(l)-1-i], s, before[i])
		}
	}
}
