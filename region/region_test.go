package region

import (
	"math"
	"math/rand"
	"slices"
	"testing"

	"landfall/api"
	"landfall/cut"
)

func mustHave(t *testing.T, r [][]api.Point, x api.Point) bool {
	t.Helper()
	is, e := Has(r, x)
	if e != api.OK {
		t.Fatalf("Has(%v, %v): %v", r, x, e)
	}
	return is
}

// must returns a region, which has to be a valid one.
func must(t *testing.T, r [][]api.Point, e api.Errno) [][]api.Point {
	t.Helper()
	if e != api.OK || !Valid(r) {
		t.Fatalf("%v, %v", r, e)
	}
	return r
}

func mustTidy(t *testing.T, l [][]api.Point) [][]api.Point {
	t.Helper()
	r, e := Tidy(l)
	return must(t, r, e)
}

func mustJoin(t *testing.T, a, b [][]api.Point) [][]api.Point {
	t.Helper()
	r, e := Join(a, b)
	return must(t, r, e)
}

func mustCut(t *testing.T, r [][]api.Point, h api.Half) [][]api.Point {
	t.Helper()
	l, e := Cut(r, h)
	return must(t, l, e)
}

func mustMeet(t *testing.T, a, b [][]api.Point) [][]api.Point {
	t.Helper()
	r, e := Meet(a, b)
	return must(t, r, e)
}

func mustOut(t *testing.T, r [][]api.Point, lo, hi api.Point) [][]api.Point {
	t.Helper()
	l, e := Out(r, lo, hi)
	return must(t, l, e)
}

func mustWithin(t *testing.T, r [][]api.Point, p []api.Point) bool {
	t.Helper()
	is, e := Within(r, p)
	if e != api.OK {
		t.Fatalf("Within(%v, %v): %v", r, p, e)
	}
	return is
}

func mustBox(t *testing.T, r [][]api.Point) (lo, hi api.Point) {
	t.Helper()
	lo, hi, ok, e := Box(r)
	if e != api.OK || ok != (len(r) > 0) {
		t.Fatalf("Box(%v): %v, %v, %v, %v", r, lo, hi, ok, e)
	}
	return lo, hi
}

// ifSum returns the sum of a region and a polygon, and whether there is one, or a corner of it would be no place.
func ifSum(t *testing.T, r [][]api.Point, p []api.Point) ([][]api.Point, bool) {
	t.Helper()
	l, e := Sum(r, p)
	if e == api.ErrRange && len(l) == 0 {
		return nil, false
	}
	return must(t, l, e), true
}

// row has n single places.
func row(n int) [][]api.Point {
	var l [][]api.Point
	for i := range n {
		l = append(l, places(10*i, 0))
	}
	return l
}

func TestP7_1_ValidExamples(t *testing.T) {
	for _, x := range []struct {
		r  [][]api.Point
		is bool
	}{
		{nil, true}, {list(), true}, {list(places(3, 4)), true}, {row(31), true}, {row(32), true}, {row(33), false}, {row(4001), false}, {slices.Repeat(row(1), 32), true}, {slices.Repeat(row(1), 33), false},
		// A region need not be a tidy one.
		{list(places(0, 0, 4, 0, 0, 4), places(1, 1), places(1, 1)), true},
		{list(parabola(64), sea()), true}, {list(parabola(65)), false}, {list(sea(), parabola(65)), false}, {list(nil), false}, {list(sea(), nil), false}, {list(nil, sea()), false}, {append(row(31), nil), false}, {list(places(most, -most)), true}, {list(places(most+1, 0)), false},
	} {
		if is := Valid(x.r); is != x.is {
			t.Errorf("Valid(%v): %v", x.r, is)
		}
	}
	for _, r := range noRegions() {
		if Valid(r) {
			t.Errorf("Valid(%v)", r)
		}
	}
	for _, r := range allRegions(t) {
		if !Valid(r) {
			t.Errorf("not Valid(%v)", r)
		}
	}
}

func TestP7_1_HasExamples(t *testing.T) {
	r := list(places(0, 0, 4, 0, 0, 4), places(6, 6), places(-3, 5, 3, 7))
	for _, x := range []struct {
		r  [][]api.Point
		x  api.Point
		is bool
	}{
		{r, place(0, 0), true}, {r, place(2, 2), true}, {r, place(2, 3), false}, {r, place(6, 6), true}, {r, place(6, 5), false}, {r, place(0, 6), true}, {r, place(1, 6), false}, {r, place(3, 7), true},
		{nil, place(0, 0), false}, {list(), place(most, most), false}, {list(sea()), place(-most, most), true}, {list(places(0, 0), sea()), place(7, 7), true}, {list(places(0, 0), places(7, 8)), place(7, 7), false},
	} {
		if is := mustHave(t, x.r, x.x); is != x.is {
			t.Errorf("Has(%v, %v): %v", x.r, x.x, is)
		}
	}
}

func TestP7_1_HasIsExact(t *testing.T) {
	for _, r := range allRegions(t) {
		for _, x := range around(r) {
			if is := mustHave(t, r, x); is != regionHas(r, x) {
				t.Fatalf("Has(%v, %v): %v", r, x, is)
			}
		}
	}
}

func TestP7_1_TidyExamples(t *testing.T) {
	big, small, far := rectangle(place(0, 0), place(4, 4)), rectangle(place(1, 1), place(2, 2)), places(9, 9)
	for _, x := range []struct{ l, want [][]api.Point }{
		{nil, nil}, {list(), nil}, {list(big), list(big)}, {list(big, small), list(big)}, {list(small, big), list(big)}, {list(small, far, big), list(far, big)}, {list(big, small, far), list(big, far)},
		// Equal ones, and ones within each other: at any place of the list.
		{list(small, small), list(small)}, {list(far, big, far, big), list(far, big)}, {list(small, far, small), list(small, far)}, {list(small, big, small), list(big)}, {list(small, places(1, 1), big, small, places(1, 1), far, places(4, 4)), list(big, far)}, {list(far, far, far), list(far)},
		// A side in common, a corner, or lines.
		{list(big, places(0, 0, 4, 0, 0, 4)), list(big)}, {list(places(0, 0, 0, 4), big), list(big)}, {list(places(0, 4, 4, 0), big), list(big)}, {list(places(0, 4, 5, 0), big), list(places(0, 4, 5, 0), big)}, {list(places(4, 4), big), list(big)}, {list(places(4, 5), big), list(places(4, 5), big)},
		{list(places(1, 1, 2, 2), places(0, 0, 3, 3)), list(places(0, 0, 3, 3))}, {list(places(1, 1, 4, 4), places(0, 0, 3, 3)), list(places(1, 1, 4, 4), places(0, 0, 3, 3))}, {list(places(0, 0), places(0, 0, 3, 3)), list(places(0, 0, 3, 3))},
		// They overlap, and have a rectangle in common, or the same one.
		{list(places(0, 0, 4, 4), places(0, 4, 4, 0)), list(places(0, 0, 4, 4), places(0, 4, 4, 0))}, {list(places(0, 0, 4, 0, 4, 4), places(0, 0, 4, 4, 0, 4)), list(places(0, 0, 4, 0, 4, 4), places(0, 0, 4, 4, 0, 4))}, {list(small, places(0, 4, 4, 0)), list(small, places(0, 4, 4, 0))},
		{list(places(0, 0, 4, 0, 0, 4), places(2, 3)), list(places(0, 0, 4, 0, 0, 4), places(2, 3))}, {list(places(0, 0, 4, 0, 0, 4), places(2, 2)), list(places(0, 0, 4, 0, 0, 4))},
		// Only the first corner, or the last one, is outside.
		{list(places(-1, 1, 1, 1, 1, 2), big), list(places(-1, 1, 1, 1, 1, 2), big)}, {list(places(1, 1, 2, 1, 2, 5), big), list(places(1, 1, 2, 1, 2, 5), big)},
	} {
		if r := mustTidy(t, x.l); !same(r, x.want) {
			t.Errorf("Tidy(%v): %v instead of %v", x.l, r, x.want)
		}
	}
}

// These polygons reach equally far in all eight directions, or one does not reach as far as the other one in one of them.
func TestP7_1_TidyComparesCorners(t *testing.T) {
	octagon := places(-10, -4, -4, -10, 4, -10, 10, -4, 10, 4, 4, 10, -4, 10, -10, 4)
	leaning := places(-10, 0, -7, -7, 0, -10, 7, -7, 10, 0, 7, 7, 0, 10, -7, 7)
	other := places(-10, 1, -6, -8, -1, -10, 8, -6, 10, -1, 6, 8, 1, 10, -8, 6)
	for i, x := range []struct{ l, want [][]api.Point }{
		{list(octagon, leaning), list(octagon)}, {list(leaning, octagon), list(octagon)}, {list(leaning, other), list(leaning, other)}, {list(other, leaning), list(other, leaning)}, {list(other, leaning, octagon), list(octagon)},
	} {
		if r := mustTidy(t, x.l); !same(r, x.want) {
			t.Errorf("case %d: %v", i, r)
		}
	}
	for _, by := range square(-1, 1) {
		for _, p := range list(leaning, other, octagon) {
			moved := shiftedBy(p, by.X, by.Y)
			if r := mustTidy(t, list(p, moved)); len(r) == 1 != slices.Equal(p, moved) {
				t.Errorf("Tidy(%v): %v", list(p, moved), r)
			}
		}
		corner := list(octagon, places(9*by.X, 9*by.Y))
		if r := mustTidy(t, corner); len(r) == 1 != (by.X == 0 || by.Y == 0) {
			t.Errorf("Tidy(%v): %v", corner, r)
		}
	}
}

func TestP7_1_TidyIsExact(t *testing.T) {
	for _, r := range allRegions(t) {
		if l := mustTidy(t, r); !same(l, tidy(t, r)) {
			t.Fatalf("Tidy(%v): %v instead of %v", r, l, tidy(t, r))
		}
	}
	// Pairs of all polygons of a square of 3 times 3, and lists of them.
	polygons := tiny(t)
	for _, p := range polygons {
		for _, q := range polygons {
			if l := mustTidy(t, list(p, q)); !same(l, tidy(t, list(p, q))) {
				t.Fatalf("Tidy(%v, %v): %v", p, q, l)
			}
		}
	}
	for _, l := range picked(11, polygons, slices.Repeat([]int{3, 5, 9, 60}, 50)...) {
		if r := mustTidy(t, l); !same(r, tidy(t, l)) {
			t.Fatalf("Tidy(%v): %v instead of %v", l, r, tidy(t, l))
		}
	}
}

func TestP7_1_TidyTooMany(t *testing.T) {
	l := row(40)
	for _, x := range []struct {
		n    int
		last []api.Point
	}{
		{31, places(300, 0)}, {32, places(310, 0)}, {33, places(310, 0, 320, 0)}, {34, places(310, 0, 330, 0)}, {40, places(310, 0, 390, 0)},
	} {
		r := mustTidy(t, l[:x.n])
		if len(r) != min(x.n, 32) || !same(r[:len(r)-1], l[:len(r)-1]) || !slices.Equal(r[len(r)-1], x.last) {
			t.Errorf("%d polygons: %v", x.n, r)
		}
	}
}

// The last one may have polygons that stay: they are not left out then.
func TestP7_1_TidyHasTheRest(t *testing.T) {
	for _, rest := range [][][]api.Point{
		{places(-20, -5), places(5, 30)}, {places(0, 9, 5, 10), places(-7, 3)}, {places(1, -9, 9, -9, 9, 9), places(500, 7, 500, 9), places(-600, 77)}, {places(-most, -most), places(most, most)}, {places(-most, -most), places(most, most), places(-most, most)},
		{round(7, 2007, 3), shiftedBy(parabola(64), 5, 5), places(0, -40, 99, 50)}, slices.Concat(dots(square(-7, -1)), list(places(-30, 30, -20, 20))),
	} {
		l := append(row(31), rest...)
		want := append(row(31), eightSided(t, slices.Concat(rest...)))
		if r := mustTidy(t, l); !same(r, want) {
			t.Errorf("Tidy(%v): %v instead of %v", l, r, want)
		}
	}
}

func TestP7_1_TidyEightSided(t *testing.T) {
	// X is from 0 to 10, Y from -2 to 9, X + Y from 1 to 17, and X - Y from -7 to 9.
	rest := list(places(0, 1), places(7, -2, 10, 2, 8, 9), places(1, 8))
	r := mustTidy(t, append(row(31), rest...))
	if want := places(0, 1, 3, -2, 7, -2, 10, 1, 10, 7, 8, 9, 2, 9, 0, 7); !slices.Equal(r[31], want) {
		t.Errorf("%v instead of %v", r[31], want)
	}
}

func TestP7_1_TidyManyIsExact(t *testing.T) {
	for i, p := range list(nil, places(0, 0), rectangle(place(-3, -3), place(3, 3)), parabola(20)) {
		l := scattered(t, int64(20+i), 300, 5, 200)
		for range i {
			l = append(append(l, p), l[:100]...)
		}
		if r := mustTidy(t, l); !same(r, tidy(t, l)) {
			t.Errorf("Tidy(%v): %v instead of %v", l, r, tidy(t, l))
		}
	}
}

func TestP7_1_TidyLimits(t *testing.T) {
	l := row(4001)
	r := mustTidy(t, l[:4000])
	if len(r) != 32 || !same(r[:31], l[:31]) || !slices.Equal(r[31], places(310, 0, 39990, 0)) {
		t.Error(r)
	}
	// Of 4000 polygons with 64 corners each few are left, or many.
	if r := mustTidy(t, slices.Repeat(list(parabola(64)), 4000)); !same(r, list(parabola(64))) {
		t.Error(r)
	}
	var wide [][]api.Point
	for i := range 4000 {
		wide = append(wide, round(i%50, i/50, 2))
	}
	if r := mustTidy(t, wide); len(r) != 32 || !same(r[:31], wide[:31]) || !slices.Equal(r[31], eightSided(t, slices.Concat(wide[31:]...))) {
		t.Error(r)
	}
	for _, l := range [][][]api.Point{l, slices.Repeat(row(1), 4001), append(row(3999), nil), append(list(nil), row(3999)...), make([][]api.Point, 5000)} {
		if r, e := Tidy(l); e != api.ErrArg || len(r) > 0 {
			t.Errorf("%d polygons: %v, %v", len(l), r, e)
		}
	}
}

func TestP7_1_JoinExamples(t *testing.T) {
	big, small, far := rectangle(place(0, 0), place(4, 4)), rectangle(place(1, 1), place(2, 2)), places(9, 9)
	for _, x := range []struct{ a, b, want [][]api.Point }{
		{nil, nil, nil}, {list(big), nil, list(big)}, {nil, list(big), list(big)}, {list(big), list(far), list(big, far)}, {list(far), list(big), list(far, big)},
		{list(small), list(far, big), list(far, big)}, {list(far, big), list(small), list(far, big)}, {list(big, far), list(far, big), list(big, far)}, {list(small, small), nil, list(small)}, {list(small, big), list(), list(big)},
		{row(20), row(32), row(32)}, {row(32), row(32), row(32)}, {row(32), list(places(0, 3)), append(row(31), places(0, 3, 3, 0, 310, 0, 307, 3))},
	} {
		if r := mustJoin(t, x.a, x.b); !same(r, x.want) {
			t.Errorf("Join(%v, %v): %v instead of %v", x.a, x.b, r, x.want)
		}
	}
}

func TestP7_1_JoinIsExact(t *testing.T) {
	eachPair(t, func(a, b [][]api.Point) {
		want := tidy(t, slices.Concat(a, b))
		if r := mustJoin(t, a, b); !same(r, want) {
			t.Fatalf("Join(%v, %v): %v instead of %v", a, b, r, want)
		}
	})
}

func TestP7_1_CutExamples(t *testing.T) {
	triangle, big, far := places(0, 0, 4, 0, 0, 4), rectangle(place(0, 0), place(4, 4)), places(9, 9)
	for _, x := range []struct {
		r    [][]api.Point
		h    api.Half
		want [][]api.Point
	}{
		{nil, half(1, 0, 0), nil}, {list(triangle), half(2, 0, 3), list(places(0, 0, 2, 0, 2, 3, 0, 4))}, {list(triangle, far), half(2, 0, 3), list(places(0, 0, 2, 0, 2, 3, 0, 4))}, {list(far, triangle), half(-2, 0, -3), list(far, places(1, 0, 4, 0, 2, 3, 1, 3))},
		{list(far, triangle), half(1, 0, -1), nil}, {list(far, triangle), half(1, 1, 18), list(far, triangle)},
		// What is left lies within what is left of another one; or it did so before.
		{list(triangle, places(0, 0, 9, 0)), half(1, 0, 3), list(places(0, 0, 3, 0, 3, 1, 0, 4))}, {list(triangle, big), half(1, 0, 3), list(rectangle(place(0, 0), place(3, 4)))}, {list(rectangle(place(0, 0), place(9, 3)), big), half(0, 1, 2), list(rectangle(place(0, 0), place(9, 2)))},
		{row(32), half(1, 0, 45), row(5)}, {list(sea()), half(api.MaxID, api.MaxID, -api.MaxSpan), list(places(-most, -most))},
	} {
		if r := mustCut(t, x.r, x.h); !same(r, x.want) {
			t.Errorf("Cut(%v, %v): %v instead of %v", x.r, x.h, r, x.want)
		}
	}
}

func TestP7_1_CutIsExact(t *testing.T) {
	for _, r := range allRegions(t) {
		for _, h := range halves() {
			want := tidy(t, parts(t, r, h))
			if l := mustCut(t, r, h); !same(l, want) {
				t.Fatalf("Cut(%v, %v): %v instead of %v", r, h, l, want)
			}
		}
	}
}

func TestP7_1_MeetExamples(t *testing.T) {
	west, east, across := rectangle(place(0, 0), place(4, 4)), rectangle(place(6, 0), place(9, 4)), rectangle(place(3, 1), place(7, 2))
	for _, x := range []struct{ a, b, want [][]api.Point }{
		{nil, nil, nil}, {list(west), nil, nil}, {nil, list(west), nil}, {list(west), list(east), nil}, {list(west, east), list(across), list(rectangle(place(3, 1), place(4, 2)), rectangle(place(6, 1), place(7, 2)))}, {list(across), list(east, west), list(rectangle(place(6, 1), place(7, 2)), rectangle(place(3, 1), place(4, 2)))},
		// The first one's polygons come first, and each of them with all of the second one.
		{list(west, east), list(places(1, 1), places(8, 1), places(2, 2), places(7, 3)), list(places(1, 1), places(2, 2), places(8, 1), places(7, 3))}, {list(places(1, 1), places(8, 1), places(2, 2)), list(west, east), list(places(1, 1), places(8, 1), places(2, 2))},
		{list(west, east), list(east, west), list(west, east)}, {list(west, west), list(west, sea()), list(west)}, {list(places(1, 1), west), list(places(1, 1), west), list(west)},
		{list(places(0, 0, 3, 2)), list(places(0, 2, 3, 0)), list(rectangle(place(1, 1), place(2, 1)))},
	} {
		if r := mustMeet(t, x.a, x.b); !same(r, x.want) {
			t.Errorf("Meet(%v, %v): %v instead of %v", x.a, x.b, r, x.want)
		}
	}
	// The lines cross in 1024 places, the first 31 of which lie on the first line.
	r := mustMeet(t, lines(false), lines(true))
	if len(r) != 32 || !slices.Equal(r[0], places(-90, -90)) || !slices.Equal(r[1], places(-84, -90)) || !slices.Equal(r[30], places(90, -90)) || !slices.Equal(r[31], places(-90, -84, -84, -90, 96, -90, 96, 96, -90, 96)) {
		t.Error(r)
	}
}

func TestP7_1_MeetIsExact(t *testing.T) {
	eachPair(t, func(a, b [][]api.Point) {
		want := tidy(t, shared(t, a, b))
		if r := mustMeet(t, a, b); !same(r, want) {
			t.Fatalf("Meet(%v, %v): %v instead of %v", a, b, r, want)
		}
	})
}

func TestP7_1_SumExamples(t *testing.T) {
	triangle, far := places(0, 0, 4, 0, 0, 4), places(9, 9)
	for _, x := range []struct {
		r    [][]api.Point
		p    []api.Point
		want [][]api.Point
		ok   bool
	}{
		{nil, triangle, nil, true}, {nil, sea(), nil, true}, {list(triangle, far), places(1, -2), list(places(1, -2, 5, -2, 1, 2), places(10, 7)), true}, {list(far, triangle), triangle, list(places(9, 9, 13, 9, 9, 13), places(0, 0, 8, 0, 0, 8)), true},
		{list(places(2, 2), places(2, 1, 3, 3)), places(0, 0, 1, 2), list(places(2, 2, 3, 4), places(2, 1, 4, 5)), true}, {list(triangle, places(0, 5)), places(0, 0, 0, 1), list(places(0, 0, 4, 0, 4, 1, 0, 5), places(0, 5, 0, 6)), true}, {list(places(3, 3), triangle, triangle), places(0, 0), list(places(3, 3), triangle), true},
		{list(places(2, 3), triangle), places(0, 0, 1, 0, 1, 1, 0, 1), list(places(2, 3, 3, 3, 3, 4, 2, 4), places(0, 0, 5, 0, 5, 1, 1, 5, 0, 5)), true},
		// One of the polygons reaches too far: any of them.
		{list(triangle), places(most-4, 0), list(places(most-4, 0, most, 0, most-4, 4)), true}, {list(triangle), places(most-3, 0), nil, false}, {list(far, triangle), places(0, most-8), nil, false}, {list(triangle, far), places(0, most-8), nil, false}, {list(far, triangle, places(-9, 0)), places(-most, 0, 0, 0), nil, false}, {list(sea()), places(0, 0, 1, 0), nil, false}, {list(sea()), places(0, 0), list(sea()), true},
		{list(far, triangle), places(0, most-9), list(places(9, most), places(0, most-9, 4, most-9, 0, most-5)), true}, {list(triangle, sea(), far), places(0, 0, 0, 1), nil, false},
	} {
		if r, ok := ifSum(t, x.r, x.p); !same(r, x.want) || ok != x.ok {
			t.Errorf("Sum(%v, %v): %v, %v instead of %v", x.r, x.p, r, ok, x.want)
		}
	}
}

// added has polygons to add to regions.
func added() [][]api.Point {
	return list(places(0, 0), places(-3, 4), places(0, 0, 1, 0), places(-1, 2, 1, -2), places(0, 0, 4, 0, 0, 4), rectangle(place(-2, -2), place(2, 2)), parabola(8), parabola(40), round(0, 0, 1), places(-400000, 0), places(0, 0, 300000, 200000), sea())
}

func TestP7_1_SumIsExact(t *testing.T) {
	some, none := 0, 0
	for _, r := range allRegions(t) {
		for _, p := range added() {
			l, e := sums(r, p)
			got, ok := ifSum(t, r, p)
			if ok != (e == api.OK) || ok && !same(got, tidy(t, l)) {
				t.Fatalf("Sum(%v, %v): %v, %v instead of %v, %v", r, p, got, ok, tidy(t, l), e)
			}
			if ok {
				some++
			} else {
				none++
			}
		}
	}
	if some < 100 || none < 50 {
		t.Errorf("only %d sums, and %d beyond places", some, none)
	}
}

func TestP7_1_OutExamples(t *testing.T) {
	big, triangle := rectangle(place(0, 0), place(4, 4)), places(0, 0, 4, 0, 0, 4)
	for _, x := range []struct {
		r      [][]api.Point
		lo, hi api.Point
		want   [][]api.Point
	}{
		{nil, place(0, 0), place(4, 4), nil}, {list(big), place(1, 1), place(2, 2), list(rectangle(place(0, 0), place(0, 4)), rectangle(place(3, 0), place(4, 4)), rectangle(place(1, 0), place(2, 0)), rectangle(place(1, 3), place(2, 4)))},
		// A side, a corner, all, or nothing.
		{list(big), place(1, 1), place(2, 9), list(rectangle(place(0, 0), place(0, 4)), rectangle(place(3, 0), place(4, 4)), places(1, 0, 2, 0))}, {list(big), place(-5, -5), place(2, 9), list(rectangle(place(3, 0), place(4, 4)))}, {list(big), place(2, 2), place(9, 9), list(rectangle(place(0, 0), place(1, 4)), rectangle(place(2, 0), place(4, 1)))},
		{list(big), place(0, 0), place(4, 4), nil}, {list(big), place(-most, -most), place(most, most), nil}, {list(big), place(5, 0), place(9, 9), list(big)}, {list(big), place(0, 5), place(9, 9), list(big)}, {list(big), place(-9, 0), place(-1, 4), list(big)}, {list(big), place(0, -9), place(4, -1), list(big)}, {list(big), place(4, 4), place(4, 4), list(rectangle(place(0, 0), place(3, 4)), places(4, 0, 4, 3))},
		// What is cut is rounded outward, and the parts of one polygon come before those of the next one.
		{list(triangle), place(1, 0), place(2, 0), list(places(0, 0, 0, 4), places(3, 0, 4, 0, 3, 1), places(1, 1, 2, 1, 2, 2, 1, 3))}, {list(places(0, 0, 6, 3)), place(2, 0), place(4, 3), list(places(0, 0, 1, 0, 1, 1), places(5, 2, 6, 3, 5, 3))}, {list(places(7, 0, 9, 0), places(-4, 0, 9, 0)), place(8, 0), place(8, 0), list(places(9, 0), places(-4, 0, 7, 0))},
		{list(places(2, 2), places(0, 2, 9, 2)), place(2, 2), place(2, 2), list(places(0, 2, 1, 2), places(3, 2, 9, 2))}, {list(places(2, 2), places(5, 5)), place(2, 2), place(2, 2), list(places(5, 5))}, {list(places(0, 0, 5, 1)), place(2, 0), place(3, 0), list(places(0, 0, 1, 0, 1, 1), places(4, 0, 5, 1, 4, 1), places(2, 1, 3, 1))},
		// The rectangle ends where places end.
		{list(sea()), place(-most, -most), place(most, most), nil}, {list(sea()), place(-most, -most), place(0, most), list(rectangle(place(1, -most), place(most, most)))}, {list(sea()), place(0, -most), place(most, most), list(rectangle(place(-most, -most), place(-1, most)))}, {list(sea()), place(-most, -most), place(most, 0), list(rectangle(place(-most, 1), place(most, most)))}, {list(sea()), place(-most, 0), place(most, most), list(rectangle(place(-most, -most), place(most, -1)))},
	} {
		if r := mustOut(t, x.r, x.lo, x.hi); !same(r, x.want) {
			t.Errorf("Out(%v, %v, %v): %v instead of %v", x.r, x.lo, x.hi, r, x.want)
		}
	}
}

func TestP7_1_OutIsExact(t *testing.T) {
	for _, r := range allRegions(t) {
		for _, b := range rectangles() {
			want := tidy(t, remains(t, r, b[0], b[1]))
			if l := mustOut(t, r, b[0], b[1]); !same(l, want) {
				t.Fatalf("Out(%v, %v, %v): %v instead of %v", r, b[0], b[1], l, want)
			}
		}
	}
}

func TestP7_1_WithinExamples(t *testing.T) {
	triangle := places(0, 0, 4, 0, 0, 4)
	for _, x := range []struct {
		r  [][]api.Point
		p  []api.Point
		is bool
	}{
		{nil, triangle, true}, {list(), places(7, 7), true}, {list(triangle), triangle, true}, {list(triangle, places(2, 2)), triangle, true}, {list(triangle, places(2, 3)), triangle, false}, {list(places(2, 3), triangle), triangle, false}, {list(places(1, 1), places(0, 4, 4, 1), places(1, 2)), triangle, false}, {list(places(1, 1), places(0, 4, 4, 0), places(1, 2)), triangle, true}, {list(triangle), places(1, 1), false}, {list(sea(), places(0, 0)), sea(), true}, {list(triangle, sea()), triangle, false},
		// All polygons together would lie within p, but one of them does not.
		{list(places(0, 0, 3, 0), places(3, 0, 6, 1)), places(0, 0, 6, 0), false}, {list(places(0, 0, 3, 0), places(2, 0, 6, 0)), places(0, 0, 6, 0), true},
	} {
		if is := mustWithin(t, x.r, x.p); is != x.is {
			t.Errorf("Within(%v, %v): %v", x.r, x.p, is)
		}
	}
}

func TestP7_1_WithinIsExact(t *testing.T) {
	eachPair(t, func(a, b [][]api.Point) {
		for _, p := range append(slices.Clone(b), sea()) {
			want := hasAll(p, slices.Concat(a...))
			if is := mustWithin(t, a, p); is != want {
				t.Fatalf("Within(%v, %v): %v", a, p, is)
			}
		}
	})
}

func TestP7_1_BoxExamples(t *testing.T) {
	triangle := places(0, 0, 4, 0, 0, 4)
	for _, x := range []struct {
		r      [][]api.Point
		lo, hi api.Point
		ok     bool
	}{
		{nil, place(0, 0), place(0, 0), false}, {list(), place(0, 0), place(0, 0), false}, {list(triangle), place(0, 0), place(4, 4), true}, {list(places(7, -8)), place(7, -8), place(7, -8), true}, {list(places(7, 8), places(9, 3)), place(7, 3), place(9, 8), true}, {list(triangle, places(-1, 5)), place(-1, 0), place(4, 5), true}, {list(places(5, -1), triangle), place(0, -1), place(5, 4), true}, {list(triangle, places(1, 1), places(1, 9)), place(0, 0), place(4, 9), true},
		{list(places(-9, -7), places(-5, -8)), place(-9, -8), place(-5, -7), true}, {list(places(most, most), places(-most, -most)), place(-most, -most), place(most, most), true},
	} {
		if lo, hi, ok, e := Box(x.r); lo != x.lo || hi != x.hi || ok != x.ok || e != api.OK {
			t.Errorf("Box(%v): %v, %v, %v, %v", x.r, lo, hi, ok, e)
		}
	}
}

// checkNoRegion checks that all functions refuse a list that is no region.
func checkNoRegion(t *testing.T, r [][]api.Point) {
	t.Helper()
	region, polygon := list(places(0, 0, 4, 0, 0, 4)), places(0, 0, 1, 1)
	if is, e := Has(r, place(0, 0)); is || e != api.ErrArg {
		t.Errorf("Has(%v): %v, %v", r, is, e)
	}
	if is, e := Within(r, polygon); is || e != api.ErrArg {
		t.Errorf("Within(%v): %v, %v", r, is, e)
	}
	if lo, hi, ok, e := Box(r); lo != (api.Point{}) || hi != lo || ok || e != api.ErrArg {
		t.Errorf("Box(%v): %v, %v, %v, %v", r, lo, hi, ok, e)
	}
	refused := func(l [][]api.Point, e api.Errno) {
		t.Helper()
		if len(l) > 0 || e != api.ErrArg {
			t.Errorf("%v: %v, %v", r, l, e)
		}
	}
	refused(Join(r, region))
	refused(Join(region, r))
	refused(Join(nil, r))
	refused(Join(r, nil))
	refused(Cut(r, half(1, 0, 3)))
	refused(Meet(r, region))
	refused(Meet(region, r))
	refused(Meet(r, nil))
	refused(Meet(nil, r))
	refused(Sum(r, polygon))
	refused(Sum(r, sea()))
	refused(Out(r, place(0, 0), place(1, 1)))
}

func TestP7_1_NoRegion(t *testing.T) {
	for _, r := range noRegions() {
		checkNoRegion(t, r)
	}
	checkNoRegion(t, row(4001))
}

func TestP7_1_NoPolygon(t *testing.T) {
	for _, p := range noPolygons() {
		for _, r := range [][][]api.Point{nil, list(places(0, 0)), list(sea(), places(0, 0, 4, 0, 0, 4)), row(32)} {
			if l, e := Sum(r, p); len(l) > 0 || e != api.ErrArg {
				t.Errorf("Sum(%v, %v): %v, %v", r, p, l, e)
			}
			if is, e := Within(r, p); is || e != api.ErrArg {
				t.Errorf("Within(%v, %v): %v, %v", r, p, is, e)
			}
			l := append(slices.Clone(r), p)
			if l, e := Tidy(l); len(l) > 0 || e != api.ErrArg {
				t.Errorf("Tidy(%v, %v): %v, %v", r, p, l, e)
			}
		}
	}
}

func TestP7_1_NoPlaceHalfOrRectangle(t *testing.T) {
	for _, r := range [][][]api.Point{nil, list(places(0, 0)), list(sea(), places(0, 0, 4, 0, 0, 4)), row(32)} {
		for _, x := range none() {
			if is, e := Has(r, x); is || e != api.ErrArg {
				t.Errorf("Has(%v, %v): %v, %v", r, x, is, e)
			}
		}
		for _, h := range noHalves() {
			if l, e := Cut(r, h); len(l) > 0 || e != api.ErrArg {
				t.Errorf("Cut(%v, %v): %v, %v", r, h, l, e)
			}
		}
		for _, b := range noRectangles() {
			if l, e := Out(r, b[0], b[1]); len(l) > 0 || e != api.ErrArg {
				t.Errorf("Out(%v, %v): %v, %v", r, b, l, e)
			}
		}
	}
}

// ownCopy has a copy of a region, without any memory of it.
func ownCopy(r [][]api.Point) [][]api.Point {
	var l [][]api.Point
	for _, p := range r {
		l = append(l, slices.Clone(p))
	}
	return l
}

// checkOwn changes all places of a result, one polygon after the other, and adds some: no other polygon, and no argument, may change.
func checkOwn(t *testing.T, name string, l [][]api.Point, arguments ...[][]api.Point) {
	t.Helper()
	var before [][][]api.Point
	for _, r := range arguments {
		before = append(before, ownCopy(r))
	}
	for i, p := range l {
		rest := ownCopy(l[i+1:])
		for k := range p {
			p[k] = place(-77777, k)
		}
		for range 3 {
			p = append(p, place(-88888, i))
		}
		if !same(rest, l[i+1:]) {
			t.Errorf("%s: polygons share memory", name)
		}
	}
	for i, r := range arguments {
		if !same(r, before[i]) {
			t.Errorf("%s: the result shares memory with %v", name, before[i])
		}
	}
}

func TestP7_1_ArgumentsStay(t *testing.T) {
	// Polygons of one array, with room behind each of them, and one that is there twice.
	l := places(0, 0, 4, 0, 0, 4, -3, -3, 7, 7, 9, 9, 1, 1, 2, 3)
	a, b := list(l[:3], l[3:5], l[5:6], l[:3], l[6:7]), list(l[5:6], l[6:8], l[3:5], l[:3])
	p := l[3:5]
	check := func(name string, call func() ([][]api.Point, api.Errno)) {
		t.Helper()
		before := slices.Clone(l)
		r, e := call()
		if !slices.Equal(l, before) {
			t.Errorf("%s changes its arguments", name)
		}
		checkOwn(t, name, must(t, r, e), a, b, list(l))
	}
	check("Tidy", func() ([][]api.Point, api.Errno) { return Tidy(a) })
	check("Join", func() ([][]api.Point, api.Errno) { return Join(a, b) })
	check("Join", func() ([][]api.Point, api.Errno) { return Join(a, nil) })
	check("Cut", func() ([][]api.Point, api.Errno) { return Cut(a, half(1, 0, 5)) })
	check("Cut", func() ([][]api.Point, api.Errno) { return Cut(a, half(1, 0, 99)) })
	check("Meet", func() ([][]api.Point, api.Errno) { return Meet(a, b) })
	check("Meet", func() ([][]api.Point, api.Errno) { return Meet(a, list(sea())) })
	check("Sum", func() ([][]api.Point, api.Errno) { return Sum(a, p) })
	check("Sum", func() ([][]api.Point, api.Errno) { return Sum(a, l[:1]) })
	check("Out", func() ([][]api.Point, api.Errno) { return Out(a, place(1, 1), place(2, 2)) })
	check("Out", func() ([][]api.Point, api.Errno) { return Out(a, place(90, 1), place(92, 2)) })
	many := row(40)
	r := mustTidy(t, many)
	checkOwn(t, "Tidy", r, many)
	// The list itself stays in its order.
	for _, r := range allRegions(t) {
		before := ownCopy(r)
		mustTidy(t, r)
		mustJoin(t, r, r)
		mustOut(t, r, place(0, 0), place(1, 1))
		mustWithin(t, r, sea())
		mustBox(t, r)
		if !same(r, before) {
			t.Fatalf("%v became %v", before, r)
		}
	}
	// Room behind the first region is not used for the second one.
	room := append(make([][]api.Point, 0, 64), row(2)...)
	mustJoin(t, room, list(places(1, 1)))
	if room[:3][2] != nil {
		t.Error("Join writes behind its first region")
	}
}

func TestP7_2_TidiedIsARegionWithAllPlaces(t *testing.T) {
	lists := append(allRegions(t), picked(12, slices.Concat(tiny(t), scattered(t, 13, 400, 6, 90)), 33, 50, 100, 500)...)
	for _, l := range append(lists, row(33), row(200), slices.Concat(row(90), lines(true), steps(9))) {
		r := mustTidy(t, l)
		for _, x := range placesOf(l) {
			if !mustHave(t, r, x) {
				t.Fatalf("Tidy(%v): %v, without %v", l, r, x)
			}
		}
		if len(outermost(l)) > 32 {
			continue
		}
		if again := mustTidy(t, r); !same(again, r) {
			t.Fatalf("Tidy(%v): %v, and tidied again %v", l, r, again)
		}
		for _, x := range around(l) {
			if mustHave(t, r, x) && !regionHas(l, x) {
				t.Fatalf("Tidy(%v): %v, with %v", l, r, x)
			}
		}
	}
}

// Tidied regions are left as they are by functions that change nothing of them.
func TestP7_2_AllResultsAreTidy(t *testing.T) {
	for _, r := range allRegions(t) {
		want := mustTidy(t, r)
		zero, e := Sum(r, places(0, 0))
		far, f := Out(r, place(most, -most), place(most, -most))
		all, g := Cut(r, half(1, 0, most))
		for _, l := range [][][]api.Point{must(t, zero, e), must(t, all, g), mustMeet(t, r, list(sea())), mustJoin(t, r, nil), mustJoin(t, nil, r), mustJoin(t, r, want)} {
			if !same(l, want) {
				t.Fatalf("%v became %v instead of %v", r, l, want)
			}
		}
		if !regionHas(r, place(most, -most)) && !same(must(t, far, f), want) {
			t.Fatalf("%v without a place it does not have: %v instead of %v", r, far, want)
		}
	}
}

func TestP7_3_Joined(t *testing.T) {
	exact, wide := 0, 0
	eachPair(t, func(a, b [][]api.Point) {
		r := mustJoin(t, a, b)
		few := len(outermost(slices.Concat(a, b))) <= 32
		if few {
			exact++
		} else {
			wide++
		}
		for _, x := range slices.Concat(around(a), around(b)) {
			is := regionHas(r, x)
			if want := regionHas(a, x) || regionHas(b, x); is != want && (want || few) {
				t.Fatalf("Join(%v, %v): %v, with %v: %v", a, b, r, x, is)
			}
		}
	})
	if exact < 100 || wide < 20 {
		t.Errorf("only %d pairs have few polygons, and %d many", exact, wide)
	}
}

func TestP7_4_CutByAHalf(t *testing.T) {
	for _, r := range allRegions(t) {
		l := placesOf(r)
		for _, h := range halves() {
			left := mustCut(t, r, h)
			for _, x := range l {
				in, e := cut.In(h, x)
				if e != api.OK {
					t.Fatalf("cut.In(%v, %v): %v", h, x, e)
				}
				if in && !regionHas(left, x) {
					t.Fatalf("Cut(%v, %v): %v, without %v", r, h, left, x)
				}
			}
		}
	}
}

func TestP7_4_InCommon(t *testing.T) {
	eachPair(t, func(a, b [][]api.Point) {
		r := mustMeet(t, a, b)
		for _, x := range slices.Concat(around(a), around(b)) {
			if regionHas(a, x) && regionHas(b, x) && !regionHas(r, x) {
				t.Fatalf("Meet(%v, %v): %v, without %v", a, b, r, x)
			}
		}
	})
}

func TestP7_5_Sums(t *testing.T) {
	for _, r := range allRegions(t) {
		l := placesOf(r)
		random := rand.New(rand.NewSource(14))
		for _, p := range added() {
			s, ok := ifSum(t, r, p)
			k := placesOf(list(p))
			for range 2000 {
				if !ok || len(l) == 0 {
					break
				}
				x, y := l[random.Intn(len(l))], k[random.Intn(len(k))]
				if sum := place(x.X+y.X, x.Y+y.Y); !mustHave(t, s, sum) {
					t.Fatalf("Sum(%v, %v): %v, without %v", r, p, s, sum)
				}
			}
		}
	}
}

func inRectangle(x, lo, hi api.Point) bool {
	return lo.X <= x.X && x.X <= hi.X && lo.Y <= x.Y && x.Y <= hi.Y
}

func TestP7_6_WithoutARectangle(t *testing.T) {
	for _, r := range allRegions(t) {
		l := placesOf(r)
		for _, b := range rectangles() {
			left := mustOut(t, r, b[0], b[1])
			for _, x := range l {
				if !inRectangle(x, b[0], b[1]) && !regionHas(left, x) {
					t.Fatalf("Out(%v, %v, %v): %v, without %v", r, b[0], b[1], left, x)
				}
			}
		}
	}
}

// randomRectangles has n rectangles up to reach from 0, 0, some of which are lines or single places.
func randomRectangles(random *rand.Rand, n, reach int) [][2]api.Point {
	var out [][2]api.Point
	for range n {
		x, y := random.Intn(2*reach+1)-reach, random.Intn(2*reach+1)-reach
		out = append(out, [2]api.Point{place(x, y), place(min(reach, x+random.Intn(reach+1)), min(reach, y+random.Intn(reach+1)))})
	}
	return out
}

func TestP7_6_RectanglesWithoutARectangle(t *testing.T) {
	random := rand.New(rand.NewSource(15))
	for _, reach := range []int{3, 6, 200, most} {
		for i := range 200 {
			var r [][]api.Point
			for _, b := range randomRectangles(random, i%9, reach) {
				r = append(r, rectangle(b[0], b[1]))
			}
			for _, b := range randomRectangles(random, 5, reach) {
				checkOut(t, r, b[0], b[1])
			}
		}
	}
}

// checkOut checks that what is left has all places of a region of rectangles that are not in the rectangle, and no others.
func checkOut(t *testing.T, r [][]api.Point, lo, hi api.Point) {
	t.Helper()
	left := mustOut(t, r, lo, hi)
	for _, x := range slices.Concat(around(r), around(list(rectangle(lo, hi))), around(left)) {
		if is, want := regionHas(left, x), regionHas(r, x) && !inRectangle(x, lo, hi); is != want {
			t.Fatalf("Out(%v, %v, %v): %v, with %v: %v", r, lo, hi, left, x, is)
		}
	}
}

func TestP7_7_Within(t *testing.T) {
	found := 0
	eachPair(t, func(a, b [][]api.Point) {
		for _, p := range append(slices.Clone(b), sea()) {
			if !mustWithin(t, a, p) {
				continue
			}
			found++
			for _, x := range around(a) {
				if regionHas(a, x) && !polygonHas(p, x) {
					t.Fatalf("Within(%v, %v), but not %v", a, p, x)
				}
			}
		}
	})
	if found < 100 {
		t.Errorf("only %d regions lie within a polygon", found)
	}
}

func TestP7_7_Boxes(t *testing.T) {
	for _, r := range allRegions(t) {
		lo, hi := mustBox(t, r)
		if len(r) == 0 {
			continue
		}
		for _, x := range placesOf(r) {
			if !inRectangle(x, lo, hi) {
				t.Fatalf("Box(%v): %v, %v, without %v", r, lo, hi, x)
			}
		}
		if !mustWithin(t, r, rectangle(lo, hi)) {
			t.Fatalf("%v is not within its box", r)
		}
		for _, b := range [][2]api.Point{{place(lo.X+1, lo.Y), hi}, {place(lo.X, lo.Y+1), hi}, {lo, place(hi.X-1, hi.Y)}, {lo, place(hi.X, hi.Y-1)}} {
			if b[0].X > b[1].X || b[0].Y > b[1].Y {
				continue
			}
			corners := slices.Concat(r...)
			if !slices.ContainsFunc(corners, func(x api.Point) bool { return !inRectangle(x, b[0], b[1]) }) || mustWithin(t, r, rectangle(b[0], b[1])) {
				t.Fatalf("Box(%v): %v, %v, but %v is enough", r, lo, hi, b)
			}
		}
	}
}

func TestP1_AllArgumentsEnd(t *testing.T) {
	numbers := []int{0, 1, -1, most, -most, most + 1, -most - 1, api.MaxSpan, math.MaxInt, math.MinInt, math.MaxInt - 1, math.MinInt + 1}
	var points []api.Point
	for _, x := range numbers {
		for _, y := range numbers {
			points = append(points, place(x, y))
		}
	}
	regions := append(slices.Concat(noRegions()[:60], roundRegions(t)[:3], largeRegions(t)[:4]), nil, row(32), row(4001), lines(true))
	ended := func(r [][]api.Point, e api.Errno) {
		t.Helper()
		if !Valid(r) || e != api.OK && (len(r) > 0 || e != api.ErrArg && e != api.ErrRange) {
			t.Fatalf("%v, %v", r, e)
		}
	}
	for _, a := range regions {
		for _, b := range regions {
			ended(Join(a, b))
			ended(Meet(a, b))
		}
		for _, p := range append(noPolygons(), sea(), places(0, 0)) {
			ended(Sum(a, p))
			if is, e := Within(a, p); is && e != api.OK || e != api.OK && e != api.ErrArg {
				t.Fatalf("Within(%v, %v): %v, %v", a, p, is, e)
			}
		}
		for _, x := range points {
			ended(Cut(a, half(x.X, x.Y, x.X)))
			ended(Out(a, x, place(3, 3)))
			ended(Out(a, place(-3, -3), x))
			ended(Out(a, x, x))
			if is, e := Has(a, x); is && e != api.OK || e != api.OK && e != api.ErrArg {
				t.Fatalf("Has(%v, %v): %v, %v", a, x, is, e)
			}
		}
		ended(Tidy(a))
		if lo, hi, ok, e := Box(a); !ok && (lo != api.Point{} || hi != lo) || ok && e != api.OK {
			t.Fatalf("Box(%v): %v, %v, %v, %v", a, lo, hi, ok, e)
		}
	}
}

// The same arguments lead to the same result, whatever was called before.
func TestP1_ArgumentsAlone(t *testing.T) {
	regions := allRegions(t)
	results := func() [][][]api.Point {
		var out [][][]api.Point
		for i, r := range regions {
			other := regions[len(regions)-1-i]
			out = append(out, mustTidy(t, r), mustJoin(t, r, other), mustMeet(t, r, other), mustCut(t, r, half(1, 2, 3)), mustOut(t, r, place(-1, -1), place(2, 2)))
		}
		return out
	}
	before := results()
	for i, r := range results() {
		if !same(r, before[i]) {
			t.Fatalf("result %d: %v, and before %v", i, r, before[i])
		}
	}
}

// P2, T1 for this package: a place that is in everything by which a region is cut and with which it is added is never lost.
func TestP2_T1_NothingIsLost(t *testing.T) {
	random := rand.New(rand.NewSource(16))
	for range 300 {
		x := place(random.Intn(2001)-1000, random.Intn(2001)-1000)
		r := list(mustHull(t, append(places(-1000, -1000, 1000, 1000), x)))
		for range 12 {
			r, x = carriedOn(t, random, r, x)
			if !regionHas(r, x) {
				t.Fatalf("%v, without %v", r, x)
			}
		}
	}
}

// carriedOn changes a region in a way that does not exclude a place, which may move with it.
func carriedOn(t *testing.T, random *rand.Rand, r [][]api.Point, x api.Point) ([][]api.Point, api.Point) {
	t.Helper()
	coord := func() int { return random.Intn(6001) - 3000 }
	switch random.Intn(5) {
	case 0:
		h := half(coord(), 1+random.Intn(100), 0)
		h.C = h.A*x.X + h.B*x.Y + random.Intn(1000000)
		return mustCut(t, r, h), x
	case 1:
		var other [][]api.Point
		for range random.Intn(5) {
			other = append(other, mustHull(t, places(coord(), coord(), coord(), coord(), coord(), coord())))
		}
		return mustMeet(t, r, append(other, mustHull(t, append(places(coord(), coord(), coord(), coord()), x)))), x
	case 2:
		lo := place(coord(), coord())
		hi := place(lo.X+random.Intn(2000), lo.Y+random.Intn(2000))
		if inRectangle(x, lo, hi) {
			return r, x
		}
		return mustOut(t, r, lo, hi), x
	case 3:
		by := place(random.Intn(9)-4, random.Intn(9)-4)
		s, e := Sum(r, mustHull(t, append(places(-2, 0, 3, 1), by)))
		return must(t, s, e), place(x.X+by.X, x.Y+by.Y)
	}
	return mustJoin(t, r, fewRectangles(random, coord)), x
}

// fewRectangles has some rectangles, or none.
func fewRectangles(random *rand.Rand, coord func() int) [][]api.Point {
	var r [][]api.Point
	for range random.Intn(9) {
		lo := place(coord(), coord())
		r = append(r, rectangle(lo, place(lo.X+random.Intn(9), lo.Y+random.Intn(9))))
	}
	return r
}

func TestP2_T9_OrderAndRepetition(t *testing.T) {
	random := rand.New(rand.NewSource(17))
	for _, r := range allRegions(t) {
		l := outermost(r)
		if len(l) > 32 {
			continue
		}
		other := slices.Concat(r, r)
		random.Shuffle(len(other), func(i, k int) { other[i], other[k] = other[k], other[i] })
		tidied := mustTidy(t, other)
		for _, p := range l {
			if !slices.ContainsFunc(tidied, func(q []api.Point) bool { return slices.Equal(p, q) }) || len(tidied) != len(l) {
				t.Fatalf("Tidy(%v): %v instead of %v", other, tidied, l)
			}
		}
	}
}
