package cut

import (
	"math"
	"math/rand"
	"slices"
	"testing"

	"landfall/api"
	"landfall/hull"
)

func mustIn(t *testing.T, h api.Half, x api.Point) bool {
	t.Helper()
	is, e := In(h, x)
	if e != api.OK {
		t.Fatalf("In(%v, %v): %v", h, x, e)
	}
	return is
}

func mustCut(t *testing.T, p []api.Point, h api.Half) ([]api.Point, bool) {
	t.Helper()
	l, ok, e := Cut(p, h)
	if e != api.OK || ok != hull.Valid(l) || ok != (len(l) > 0) {
		t.Fatalf("Cut(%v, %v): %v, %v, %v", p, h, l, ok, e)
	}
	return l, ok
}

func mustMeet(t *testing.T, p, q []api.Point) ([]api.Point, bool) {
	t.Helper()
	l, ok, e := Meet(p, q)
	if e != api.OK || ok != hull.Valid(l) || ok != (len(l) > 0) {
		t.Fatalf("Meet(%v, %v): %v, %v, %v", p, q, l, ok, e)
	}
	return l, ok
}

func mustApart(t *testing.T, p, q []api.Point) bool {
	t.Helper()
	is, e := Apart(p, q)
	if e != api.OK {
		t.Fatalf("Apart(%v, %v): %v", p, q, e)
	}
	return is
}

func mustWithin(t *testing.T, p, q []api.Point) bool {
	t.Helper()
	is, e := Within(p, q)
	if e != api.OK {
		t.Fatalf("Within(%v, %v): %v", p, q, e)
	}
	return is
}

func mustCommon(t *testing.T, p, q []api.Point) (api.Point, bool) {
	t.Helper()
	x, ok, e := Common(p, q)
	if e != api.OK || !ok && x != (api.Point{}) {
		t.Fatalf("Common(%v, %v): %v, %v, %v", p, q, x, ok, e)
	}
	return x, ok
}

// eachCut calls a function with small polygons and near half-planes, and with large ones.
func eachCut(t *testing.T, f func(p []api.Point, h api.Half)) {
	for _, p := range small(t) {
		for _, h := range smallHalves() {
			f(p, h)
		}
	}
	for _, p := range large(t) {
		for _, h := range append(largeHalves(), beside(p)...) {
			f(p, h)
		}
	}
}

// eachPair calls a function with pairs of small polygons, and of large ones.
func eachPair(t *testing.T, f func(p, q []api.Point)) {
	for _, l := range [][][]api.Point{small(t), large(t)} {
		for _, p := range l {
			for _, q := range l {
				f(p, q)
			}
		}
	}
}

func TestP4_1_InExamples(t *testing.T) {
	const id, span = api.MaxID, api.MaxSpan
	for _, x := range []struct {
		h  api.Half
		x  api.Point
		is bool
	}{
		{half(1, 0, 1), api.Point{X: 1, Y: 99}, true}, {half(1, 0, 1), api.Point{X: 2, Y: -99}, false}, {half(2, 0, 3), api.Point{X: 1}, true}, {half(2, 0, 3), api.Point{X: 2}, false},
		{half(0, -1, -4), api.Point{Y: 4}, true}, {half(0, -1, -4), api.Point{Y: 3}, false}, {half(3, -5, -1), api.Point{X: 3, Y: 2}, true}, {half(3, -5, -2), api.Point{X: 3, Y: 2}, false},
		{half(id, id, span), api.Point{X: most, Y: most}, true}, {half(id, id, span-1), api.Point{X: most, Y: most}, false}, {half(id, -id, -span), api.Point{X: -most, Y: most}, true}, {half(id, -id, -span), api.Point{X: -most, Y: most - 1}, false},
		{half(1, 1, span), api.Point{X: most, Y: most}, true}, {half(1, 1, -span), api.Point{X: -most, Y: -most}, false},
	} {
		if is := mustIn(t, x.h, x.x); is != x.is {
			t.Errorf("In(%v, %v): %v", x.h, x.x, is)
		}
	}
}

func TestP4_1_InIsExact(t *testing.T) {
	for _, h := range smallHalves() {
		for _, x := range square(-4, 4) {
			if is := mustIn(t, h, x); is != (excess(h, x).Sign() <= 0) {
				t.Fatalf("In(%v, %v): %v", h, x, is)
			}
		}
	}
	for _, p := range large(t) {
		for _, h := range append(largeHalves(), beside(p)...) {
			for _, x := range p {
				if is := mustIn(t, h, x); is != (excess(h, x).Sign() <= 0) {
					t.Fatalf("In(%v, %v): %v", h, x, is)
				}
			}
		}
	}
}

func TestP4_1_CutExamples(t *testing.T) {
	triangle := at(0, 0, 4, 0, 0, 4)
	sea := at(-most, -most, most, -most, most, most, -most, most)
	const id, span = api.MaxID, api.MaxSpan
	for _, x := range []struct {
		p    []api.Point
		h    api.Half
		want []api.Point
	}{
		{triangle, half(1, 0, 1), at(0, 0, 1, 0, 1, 3, 0, 4)}, {triangle, half(2, 0, 3), at(0, 0, 2, 0, 2, 3, 0, 4)}, {triangle, half(-2, 0, -3), at(1, 0, 4, 0, 2, 3, 1, 3)},
		// The edge touches a corner, or has a side: nothing is crossed.
		{triangle, half(1, 0, 4), triangle}, {triangle, half(-1, 0, -4), at(4, 0)}, {triangle, half(-1, 0, 0), triangle}, {triangle, half(1, 0, 0), at(0, 0, 0, 4)}, {triangle, half(-1, -1, -4), at(0, 4, 4, 0)},
		{triangle, half(1, 0, -1), nil}, {triangle, half(-7, 0, -29), nil}, {triangle, half(-7, 0, -28), at(4, 0)}, {triangle, half(7, 7, 29), triangle},
		// It passes through a corner, and crosses the opposite side at a place, or beside one.
		{triangle, half(1, -1, 0), at(0, 0, 2, 2, 0, 4)}, {triangle, half(2, -1, 0), at(0, 0, 2, 2, 2, 3, 0, 4)}, {triangle, half(1, -3, 0), at(0, 0, 3, 1, 0, 4)},
		// Frames of both crossings have the same places, and lie below 0.
		{triangle, half(0, -3, -10), at(0, 3, 1, 3, 1, 4, 0, 4)}, {at(-4, 0, 0, -4, 0, 0), half(0, 3, -10), at(-1, -4, 0, -4, 0, -3, -1, -3)}, {at(-5, -5, -2, -5, -5, -2), half(3, 0, -13), at(-5, -5, -4, -5, -4, -2, -5, -2)},
		{at(0, 0, 6, 3), half(1, 0, 3), at(0, 0, 3, 1, 3, 2)}, {at(0, 0, 6, 3), half(1, 0, 4), at(0, 0, 4, 2)}, {at(0, 0, 6, 3), half(-1, 0, -6), at(6, 3)}, {at(0, 0, 6, 3), half(-1, 0, 0), at(0, 0, 6, 3)},
		{at(0, 0, 6, 3), half(-1, 2, 0), at(0, 0, 6, 3)}, {at(0, 0, 6, 3), half(1, -2, -1), nil}, {at(0, 0, 2, 1), half(3, 3, 1), at(0, 0, 1, 0, 1, 1, 0, 1)},
		{at(7, -7), half(1, 1, 0), at(7, -7)}, {at(7, -7), half(1, 1, -1), nil}, {at(7, -7), half(1, 1, 9), at(7, -7)},
		// All numbers are as large as they may be.
		{sea, half(id, id, span), sea}, {sea, half(id, -id, span), sea}, {sea, half(-id, -id, -span), at(most, most)}, {sea, half(id, id, -span), at(-most, -most)}, {sea, half(1, 1, -span), nil},
		{sea, half(id, id, 0), at(-most, -most, most, -most, -most, most)}, {sea, half(id, id-1, 0), at(-most, -most, most, -most, 1-most, most, -most, most)},
		{sea, half(-id, id-1, 1000000-span), at(most-1, -most, most, -most, most, 1-most)},
		{at(-most, -most, most, most-1), half(id, id, 0), at(-most, -most, 1, -1, 1, 0, 0, 0)},
	} {
		if l, _ := mustCut(t, x.p, x.h); !slices.Equal(l, x.want) {
			t.Errorf("Cut(%v, %v): %v instead of %v", x.p, x.h, l, x.want)
		}
	}
}

func TestP4_1_CutIsExact(t *testing.T) {
	eachCut(t, func(p []api.Point, h api.Half) {
		want, _ := outward(t, left(p, h))
		if l, _ := mustCut(t, p, h); !slices.Equal(l, want) {
			t.Fatalf("Cut(%v, %v): %v instead of %v", p, h, l, want)
		}
	})
}

// With 64 corners what is left is as it is; with 65 its eight-sided hull stands for it.
func TestP4_1_CutTooManyCorners(t *testing.T) {
	p := parabola(64)
	for _, x := range []struct {
		h    api.Half
		want []api.Point
	}{
		{half(0, 1, 3969), p},
		{half(0, 1, 3844), append(parabola(63), at(61, 3844)...)},
		{half(0, 1, 3968), at(0, 0, 63, 63, 63, 3968, 62, 3968, 0, 3906)},
	} {
		if l, _ := mustCut(t, p, x.h); !slices.Equal(l, x.want) {
			t.Errorf("Cut(%v, %v): %v instead of %v", p, x.h, l, x.want)
		}
	}
}

func TestP4_1_CutManyCornersIsExact(t *testing.T) {
	wide := 0
	for _, p := range [][]api.Point{parabola(64), parabola(63), round(0, 0, 1), round(9, 5, 3), round(0, 0, 5000)} {
		for _, h := range acrossCorners(p) {
			want, eightSided := outward(t, left(p, h))
			if l, _ := mustCut(t, p, h); !slices.Equal(l, want) {
				t.Fatalf("Cut(%v, %v): %v instead of %v", p, h, l, want)
			}
			if eightSided {
				wide++
			}
		}
	}
	if wide < 20 {
		t.Errorf("only %d cuts have too many corners", wide)
	}
}

// acrossCorners has half-planes that take away one corner of a polygon each, and hardly anything else.
func acrossCorners(p []api.Point) []api.Half {
	var out []api.Half
	for i, x := range p {
		a, b := p[(i+len(p)-1)%len(p)], p[(i+1)%len(p)]
		h := half(b.Y-a.Y, a.X-b.X, 0)
		for _, part := range []int{1, 2, 3} {
			h.C = ((4-part)*(h.A*a.X+h.B*a.Y) + part*(h.A*x.X+h.B*x.Y)) / 4
			out = append(out, h)
		}
	}
	return out
}

func TestP4_1_MeetExamples(t *testing.T) {
	triangle := at(0, 0, 4, 0, 0, 4)
	for _, x := range []struct{ p, q, want []api.Point }{
		{triangle, at(3, 0, 6, 0, 6, 3, 3, 3), at(3, 0, 4, 0, 3, 1)}, {triangle, at(3, 2, 6, 2, 6, 5, 3, 5), nil}, {triangle, triangle, triangle},
		// A corner, a side, or a part of one.
		{triangle, at(4, 0, 6, 0, 6, 2, 4, 2), at(4, 0)}, {triangle, at(-4, 0, 0, 0, 0, 4), at(0, 0, 0, 4)}, {triangle, at(-4, 1, 0, 1, 0, 9), at(0, 1, 0, 4)}, {triangle, at(2, 2, 5, 2, 5, 5), at(2, 2)}, {triangle, at(1, 3, 2, 1, 3, 1, 3, 3), at(1, 3, 2, 1, 3, 1)},
		// One within the other one, with and without a side of it.
		{triangle, at(1, 1, 2, 1, 1, 2), at(1, 1, 2, 1, 1, 2)}, {triangle, at(0, 0, 2, 0, 0, 2), at(0, 0, 2, 0, 0, 2)}, {triangle, at(-9, -9, 19, -9, -9, 19), triangle}, {triangle, at(1, 1), at(1, 1)}, {triangle, at(2, 2), at(2, 2)}, {triangle, at(2, 3), nil}, {triangle, at(0, 4, 4, 0), at(0, 4, 4, 0)},
		// Sides cross, with no corner in the other one.
		{at(-3, -1, 3, -1, 3, 1, -3, 1), at(-1, -3, 1, -3, 1, 3, -1, 3), at(-1, -1, 1, -1, 1, 1, -1, 1)}, {at(0, 0, 4, 0, 4, 4, 0, 4), at(-1, 2, 5, 3), at(0, 2, 4, 2, 4, 3, 0, 3)},
		{at(0, 0, 3, 2), at(0, 2, 3, 0), at(1, 1, 2, 1)}, {at(0, 0, 2, 2), at(0, 2, 2, 0), at(1, 1)}, {at(0, 0, 1, 1), at(0, 1, 1, 0), at(0, 0, 1, 0, 1, 1, 0, 1)}, {at(-2, -2, -1, -1), at(-2, -1, -1, -2), at(-2, -2, -1, -2, -1, -1, -2, -1)},
		// Lines with a corner on the other one, on one line, beside each other, or ending before it.
		{at(0, 0, 4, 2), at(2, 1, 3, 9), at(2, 1)}, {at(0, 0, 4, 2), at(4, 2, 5, 5), at(4, 2)}, {at(0, 0, 4, 0), at(2, 0, 9, 0), at(2, 0, 4, 0)}, {at(0, 0, 4, 0), at(4, 0, 9, 0), at(4, 0)}, {at(0, 0, 4, 0), at(5, 0, 9, 0), nil}, {at(0, 0, 4, 0), at(0, 1, 4, 1), nil}, {at(0, 0, 4, 4), at(0, 3, 1, 2), nil}, {at(0, 0, 4, 4), at(0, 3, 2, 1), at(1, 1, 2, 1, 2, 2, 1, 2)},
		{at(2, 5), at(2, 5), at(2, 5)}, {at(2, 5), at(5, 2), nil}, {at(2, 1), at(0, 0, 4, 2), at(2, 1)}, {at(2, 2), at(0, 0, 4, 2), nil},
		{at(-most, -most, most, -most, most, most, -most, most), at(-most, -most, most, most), at(-most, -most, most, most)}, {at(-most, -most, most, most), at(-most, most, most, -most), at(0, 0)}, {at(-most, -most, most, most), at(-most, most, most, 1-most), at(0, 0, 1, 0, 1, 1, 0, 1)}, {at(-most, -most, most, most-1), at(-most, most, most, 1-most), at(0, 0, 1, 0)},
	} {
		for _, l := range [][2][]api.Point{{x.p, x.q}, {x.q, x.p}} {
			if r, _ := mustMeet(t, l[0], l[1]); !slices.Equal(r, x.want) {
				t.Errorf("Meet(%v, %v): %v instead of %v", l[0], l[1], r, x.want)
			}
		}
	}
}

func TestP4_1_MeetIsExact(t *testing.T) {
	eachPair(t, func(p, q []api.Point) {
		want, _ := outward(t, both(p, q))
		if l, _ := mustMeet(t, p, q); !slices.Equal(l, want) {
			t.Fatalf("Meet(%v, %v): %v instead of %v", p, q, l, want)
		}
	})
}

func TestP4_1_MeetManyCornersIsExact(t *testing.T) {
	wide := 0
	for _, l := range manyCrossings(t) {
		want, eightSided := outward(t, both(l[0], l[1]))
		if r, _ := mustMeet(t, l[0], l[1]); !slices.Equal(r, want) {
			t.Fatalf("Meet(%v, %v): %v instead of %v", l[0], l[1], r, want)
		}
		if eightSided {
			wide++
		}
	}
	if wide < 10 {
		t.Errorf("only %d pairs have too many corners in common", wide)
	}
}

// manyCrossings has pairs of polygons that cross each other again and again.
func manyCrossings(t *testing.T) [][2][]api.Point {
	var out [][2][]api.Point
	for _, size := range []int{13, 130, 1300, 5005} {
		for _, by := range square(-1, 1) {
			p, q := turned(t, round(0, 0, size)), round(by.X*size/13, by.Y*size/7, size+by.X)
			out = append(out, [2][]api.Point{p, q}, [2][]api.Point{q, p})
		}
	}
	return out
}

// With 64 corners what they have in common is as it is; with 65 its eight-sided hull stands for it.
func TestP4_1_MeetTooManyCorners(t *testing.T) {
	p := parabola(64)
	below := func(y int) []api.Point { return at(-5, -5, 99, -5, 99, y, -5, y) }
	for _, x := range []struct{ q, want []api.Point }{
		{below(3969), p},
		{below(3844), append(parabola(63), at(61, 3844)...)},
		{below(3968), at(0, 0, 63, 63, 63, 3968, 62, 3968, 0, 3906)},
	} {
		for _, l := range [][2][]api.Point{{p, x.q}, {x.q, p}} {
			if r, _ := mustMeet(t, l[0], l[1]); !slices.Equal(r, x.want) {
				t.Errorf("Meet(%v, %v): %v instead of %v", l[0], l[1], r, x.want)
			}
		}
	}
}

func TestP4_1_ApartExamples(t *testing.T) {
	triangle := at(0, 0, 4, 0, 0, 4)
	for _, x := range []struct {
		p, q []api.Point
		is   bool
	}{
		{triangle, at(3, 2, 6, 2, 6, 5, 3, 5), true}, {triangle, at(3, 1, 6, 1, 6, 5, 3, 5), false}, {triangle, at(4, 0), false}, {triangle, at(1, 1), false}, {triangle, at(5, 0), true}, {triangle, at(0, 5, 5, 0), true}, {triangle, at(0, 3, 5, 0), false}, {triangle, at(-9, -9, 19, -9, -9, 19), false},
		// They have points in common, but no place.
		{at(0, 0, 1, 1), at(0, 1, 1, 0), false}, {at(0, 0, 3, 2), at(1, 1, 2, 0), false}, {at(0, 0, 7, 5), at(0, 1, 7, 4), false},
		{at(0, 0, 4, 0), at(4, 0, 9, 0), false}, {at(0, 0, 4, 0), at(5, 0, 9, 0), true}, {at(0, 0, 4, 0), at(0, 1, 4, 1), true}, {at(0, 0, 4, 4), at(0, 3, 1, 2), true}, {at(2, 5), at(2, 5), false}, {at(2, 5), at(2, 4), true},
		// Their rectangles overlap, by less than a place.
		{at(-most, -most, most, -most, most, most-1), at(-most, 1-most, most, most), true}, {at(-most, -most, most, -most, most, most), at(-most, 1-most, most, most), false}, {at(-most, -most, most, most-1), at(-most, 1-most, most-1, most), true}, {at(-most, -most, most, most-1), at(1-most, -most, most-1, most-1), false},
	} {
		if is, back := mustApart(t, x.p, x.q), mustApart(t, x.q, x.p); is != x.is || back != x.is {
			t.Errorf("Apart(%v, %v): %v, %v", x.p, x.q, is, back)
		}
	}
}

func TestP4_1_ApartIsExact(t *testing.T) {
	eachPair(t, func(p, q []api.Point) {
		if is := mustApart(t, p, q); is != separate(p, q) {
			t.Fatalf("Apart(%v, %v): %v", p, q, is)
		}
	})
}

func TestP4_1_WithinExamples(t *testing.T) {
	triangle := at(0, 0, 4, 0, 0, 4)
	for _, x := range []struct {
		p, q []api.Point
		is   bool
	}{
		{triangle, triangle, true}, {at(1, 1, 2, 1, 1, 2), triangle, true}, {triangle, at(1, 1, 2, 1, 1, 2), false}, {at(0, 4, 4, 0), triangle, true}, {at(0, 4, 4, 1), triangle, false}, {at(0, 4, 5, -1), triangle, false}, {at(2, 2), triangle, true}, {at(2, 3), triangle, false}, {triangle, at(2, 2), false},
		{at(2, 1), at(0, 0, 4, 2), true}, {at(0, 0, 4, 2), at(2, 1), false}, {at(0, 0, 2, 1), at(0, 0, 4, 2), true}, {at(0, 0, 4, 2), at(0, 0, 2, 1), false}, {at(0, 0, 2, 2), at(0, 0, 4, 2), false}, {at(3, 3), at(3, 3), true}, {at(3, 3), at(3, 4), false},
		// Only one corner is outside, the first or the last one.
		{at(-1, 2, 1, 1, 2, 1), triangle, false}, {at(1, 1, 3, 2, 1, 2), triangle, false}, {at(1, 1, 3, 1, 1, 5), at(0, 0, 4, 0, 4, 4, 0, 4), false},
		{at(-most, -most, most, most), at(-most, -most, most, -most, most, most), true}, {at(-most, -most, most-1, most), at(-most, -most, most, -most, most, most), false},
	} {
		if is := mustWithin(t, x.p, x.q); is != x.is {
			t.Errorf("Within(%v, %v): %v", x.p, x.q, is)
		}
	}
}

func TestP4_1_WithinIsExact(t *testing.T) {
	places := square(-5, 5)
	for _, p := range small(t) {
		inside := shared(places, p)
		for _, q := range small(t) {
			if is := mustWithin(t, p, q); is != hasAll(q, inside) {
				t.Fatalf("Within(%v, %v): %v", p, q, is)
			}
		}
	}
	for _, p := range large(t) {
		for _, q := range large(t) {
			if is := mustWithin(t, p, q); is != hasAll(q, p) {
				t.Fatalf("Within(%v, %v): %v", p, q, is)
			}
		}
	}
}

func TestP4_1_CommonExamples(t *testing.T) {
	triangle, slim := at(0, 0, 4, 0, 0, 4), at(-5, 3, -1, -3, 5, -5)
	for _, x := range []struct {
		p, q []api.Point
		want []api.Point
	}{
		// Corners of the first one come before lesser ones of the second one, and those before crossings.
		{triangle, at(3, 0, 6, 0, 6, 3, 3, 3), at(4, 0)}, {at(3, 0, 6, 0, 6, 3, 3, 3), triangle, at(3, 0)}, {triangle, at(-9, -9, 19, -9, -9, 19), at(0, 0)}, {at(-9, -9, 19, -9, -9, 19), triangle, at(0, 0)}, {triangle, at(1, 1, 9, 1, 9, 9), at(1, 1)}, {at(1, 1, 9, 1, 9, 9), triangle, at(1, 1)},
		{triangle, at(-5, 1, 1, 1, 1, 2, -5, 2), at(1, 1)}, {at(-5, 1, 1, 1, 1, 2, -5, 2), triangle, at(1, 1)}, {triangle, at(-5, 1, 2, 1), at(2, 1)},
		// The least one is not the first one, or has the same X as another one.
		{at(0, 2, 2, 0, 4, 2, 2, 4), at(1, -9, 9, -9, 9, 9, 1, 9), at(2, 0)}, {at(0, 2, 2, 0, 4, 2, 2, 4), at(2, -9, 9, -9, 9, 9, 2, 9), at(2, 0)}, {at(0, 2, 2, 0, 4, 2, 2, 4), at(2, 2, 9, 2, 9, 9, 2, 9), at(2, 4)},
		// No corner is in common: places beside crossings that both have, if there are any.
		{at(-3, -1, 3, -1, 3, 1, -3, 1), at(-1, -3, 1, -3, 1, 3, -1, 3), at(-1, -1)}, {at(0, 0, 2, 2), at(0, 2, 2, 0), at(1, 1)}, {at(0, 0, 3, 2), at(0, 2, 3, 0), nil}, {at(0, 0, 4, 0, 4, 4, 0, 4), at(-1, 2, 5, 3), nil},
		{slim, at(-2, 2, 0, -4, 1, 5), at(0, -3)}, {slim, at(-5, -4, 1, -1, -5, 2), at(-2, 0)}, {slim, at(-3, 3, 2, -5, 2, 1), at(1, -3)},
		// Both have (-2, 0) and (1, -2), but they are not beside a crossing.
		{slim, at(-5, 2, 4, -4), nil},
		{triangle, at(3, 2, 6, 2, 6, 5, 3, 5), nil}, {at(0, 0), at(0, 0), at(0, 0)}, {at(0, 0), at(0, 1), nil},
	} {
		if y, ok := mustCommon(t, x.p, x.q); ok != (len(x.want) > 0) || ok && y != x.want[0] {
			t.Errorf("Common(%v, %v): %v, %v instead of %v", x.p, x.q, y, ok, x.want)
		}
	}
}

func TestP4_1_CommonIsExact(t *testing.T) {
	eachPair(t, func(p, q []api.Point) {
		var want []api.Point
		for _, l := range [][]api.Point{shared(p, q), shared(q, p), shared(shared(sideFrames(p, q), p), q)} {
			if len(want) == 0 {
				want = l
			}
		}
		x, ok := mustCommon(t, p, q)
		if ok != (len(want) > 0) || ok && !slices.Contains(want, x) {
			t.Fatalf("Common(%v, %v): %v, %v, which is none of %v", p, q, x, ok, want)
		}
		for _, y := range want {
			if y.X < x.X || y.X == x.X && y.Y < x.Y {
				t.Fatalf("Common(%v, %v): %v, but %v is less", p, q, x, y)
			}
		}
	})
}

func TestP4_1_NoPolygon(t *testing.T) {
	triangle := at(0, 0, 4, 0, 0, 4)
	for _, p := range noPolygons() {
		for _, h := range append(noHalves(), half(1, 0, 1), half(-1, 1, 9)) {
			if l, ok, e := Cut(p, h); len(l) > 0 || ok || e != api.ErrArg {
				t.Errorf("Cut(%v, %v): %v, %v, %v", p, h, l, ok, e)
			}
		}
		for _, q := range append(noPolygons(), triangle, at(3, 4)) {
			checkNoPair(t, p, q)
			checkNoPair(t, q, p)
		}
	}
}

func checkNoPair(t *testing.T, p, q []api.Point) {
	t.Helper()
	if l, ok, e := Meet(p, q); len(l) > 0 || ok || e != api.ErrArg {
		t.Errorf("Meet(%v, %v): %v, %v, %v", p, q, l, ok, e)
	}
	if is, e := Apart(p, q); is || e != api.ErrArg {
		t.Errorf("Apart(%v, %v): %v, %v", p, q, is, e)
	}
	if is, e := Within(p, q); is || e != api.ErrArg {
		t.Errorf("Within(%v, %v): %v, %v", p, q, is, e)
	}
	if x, ok, e := Common(p, q); x != (api.Point{}) || ok || e != api.ErrArg {
		t.Errorf("Common(%v, %v): %v, %v, %v", p, q, x, ok, e)
	}
}

func TestP4_1_NoHalf(t *testing.T) {
	polygons := append(large(t), at(0, 0), at(0, 0, 4, 0, 0, 4))
	for _, h := range noHalves() {
		for _, p := range polygons {
			if l, ok, e := Cut(p, h); len(l) > 0 || ok || e != api.ErrArg {
				t.Errorf("Cut(%v, %v): %v, %v, %v", p, h, l, ok, e)
			}
		}
		for _, x := range append(none(), at(0, 0, most, most)...) {
			if is, e := In(h, x); is || e != api.ErrArg {
				t.Errorf("In(%v, %v): %v, %v", h, x, is, e)
			}
		}
	}
	for _, h := range append(largeHalves(), half(1, 0, 1), half(0, -1, 9)) {
		for _, x := range none() {
			if is, e := In(h, x); is || e != api.ErrArg {
				t.Errorf("In(%v, %v): %v, %v", h, x, is, e)
			}
		}
	}
}

// Results are new memory, and what was given stays.
func TestP4_1_ArgumentsStay(t *testing.T) {
	for _, p := range append(large(t), tiny(t)...) {
		q := at(-most, -most, most, -most, most, most, -most, most)
		kept, sea := slices.Clone(p), slices.Clone(q)
		for _, h := range []api.Half{half(1, 0, 0), half(1, 0, most), half(0, 1, -1)} {
			l, _ := mustCut(t, p, h)
			clear(l)
		}
		for _, l := range [][2][]api.Point{{p, q}, {q, p}, {p, p}} {
			r, _ := mustMeet(t, l[0], l[1])
			clear(r)
			mustApart(t, l[0], l[1])
			mustWithin(t, l[0], l[1])
			mustCommon(t, l[0], l[1])
		}
		if !slices.Equal(p, kept) || !slices.Equal(q, sea) {
			t.Fatalf("%v has become %v, and %v has become %v", kept, p, sea, q)
		}
	}
}

func TestP4_2_WhatStays(t *testing.T) {
	places := square(-5, 5)
	for _, p := range small(t) {
		inside := shared(places, p)
		for _, h := range smallHalves() {
			checkStays(t, p, h, inside)
		}
	}
	for _, p := range large(t) {
		inside := shared(near(p), p)
		for _, h := range append(largeHalves(), beside(p)...) {
			l, _ := mustCut(t, p, h)
			checkStays(t, p, h, append(shared(near(l), p), inside...))
		}
	}
}

// checkStays looks for places of a polygon that get lost though the half-plane has them, and for corners that are too far away.
func checkStays(t *testing.T, p []api.Point, h api.Half, inside []api.Point) {
	t.Helper()
	l, ok := mustCut(t, p, h)
	for _, x := range inside {
		if mustIn(t, h, x) && !(ok && has(l, x)) {
			t.Fatalf("Cut(%v, %v): %v, where %v is lost", p, h, l, x)
		}
	}
	checkBox(t, p, l)
	// One corner less, and two frames, can only be too many if there were many.
	if len(p)+7 > api.MaxCorners {
		if _, eightSided := outward(t, left(p, h)); eightSided {
			return
		}
	}
	for _, c := range l {
		// Of all points at most 1 away from the corner the one that is the farthest on this side of the edge.
		best := h.A*c.X + h.B*c.Y - max(h.A, -h.A) - max(h.B, -h.B)
		if best > h.C {
			t.Fatalf("Cut(%v, %v): %v, where the corner %v is far away", p, h, l, c)
		}
	}
}

// checkBox looks for corners of a part that are out of the rectangle of the whole.
func checkBox(t *testing.T, p, part []api.Point) {
	t.Helper()
	lo, hi, e := hull.Box(p)
	if e != api.OK {
		t.Fatalf("hull.Box(%v): %v", p, e)
	}
	for _, c := range part {
		if c.X < lo.X || c.X > hi.X || c.Y < lo.Y || c.Y > hi.Y {
			t.Fatalf("%v of %v is out of its rectangle: %v", part, p, c)
		}
	}
}

// Where there would be too many corners no place is lost either, and the rectangle is kept.
func TestP4_2_WhatStaysOfManyCorners(t *testing.T) {
	for _, p := range [][]api.Point{parabola(64), round(0, 0, 1), round(0, 0, 5000)} {
		for _, h := range acrossCorners(p) {
			l, _ := mustCut(t, p, h)
			checkStays(t, p, h, shared(near(p, l), p))
		}
	}
}

func TestP4_3_AllOrNothing(t *testing.T) {
	eachCut(t, func(p []api.Point, h api.Half) {
		in := 0
		for _, c := range p {
			if mustIn(t, h, c) {
				in++
			}
		}
		l, ok := mustCut(t, p, h)
		if in == len(p) && !slices.Equal(l, p) || ok != (in > 0) {
			t.Fatalf("Cut(%v, %v): %v, though it has %d of %d corners", p, h, l, in, len(p))
		}
	})
}

func TestP4_4_BothSides(t *testing.T) {
	places := square(-5, 5)
	for _, p := range small(t) {
		inside := shared(places, p)
		for _, h := range smallHalves() {
			checkSides(t, p, h, inside)
		}
	}
	for _, p := range large(t) {
		inside := shared(near(p), p)
		for _, h := range slices.Concat(largeHalves(), beside(p), acrossCorners(p)) {
			if h.A != 0 || h.B != 0 {
				checkSides(t, p, h, inside)
			}
		}
	}
}

func checkSides(t *testing.T, p []api.Point, h api.Half, inside []api.Point) {
	t.Helper()
	l, ok := mustCut(t, p, h)
	m, also := mustCut(t, p, opposite(h))
	for _, x := range inside {
		if !(ok && has(l, x)) && !(also && has(m, x)) {
			t.Fatalf("%v, cut by %v: %v, and %v on the other side; %v is lost", p, h, l, m, x)
		}
	}
}

func TestP4_5_InCommon(t *testing.T) {
	eachPair(t, func(p, q []api.Point) {
		l, ok := mustMeet(t, p, q)
		m, also := mustMeet(t, q, p)
		if ok != also || !slices.Equal(l, m) {
			t.Fatalf("%v and %v: %v, and the other way round %v", p, q, l, m)
		}
	})
	places := square(-5, 5)
	for _, p := range small(t) {
		inside := shared(places, p)
		for _, q := range small(t) {
			checkInCommon(t, p, q, shared(inside, q))
		}
	}
	for _, p := range large(t) {
		for _, q := range large(t) {
			l, _ := mustMeet(t, p, q)
			checkInCommon(t, p, q, shared(shared(near(p, q, l), p), q))
		}
	}
}

// Where there would be too many corners the order of both plays no part either, and no place is lost.
func TestP4_5_InCommonWithManyCorners(t *testing.T) {
	for _, x := range manyCrossings(t) {
		l, _ := mustMeet(t, x[0], x[1])
		if m, _ := mustMeet(t, x[1], x[0]); !slices.Equal(l, m) {
			t.Fatalf("%v and %v: %v, and the other way round %v", x[0], x[1], l, m)
		}
		places := near(x[0], x[1], l, sideFrames(x[0], x[1]))
		checkInCommon(t, x[0], x[1], shared(shared(places, x[0]), x[1]))
	}
}

func checkInCommon(t *testing.T, p, q, places []api.Point) {
	t.Helper()
	l, ok := mustMeet(t, p, q)
	checkBox(t, p, l)
	checkBox(t, q, l)
	for _, x := range places {
		if !ok || !has(l, x) {
			t.Fatalf("Meet(%v, %v): %v, but both have %v", p, q, l, x)
		}
	}
}

func TestP4_6_Apart(t *testing.T) {
	eachPair(t, func(p, q []api.Point) {
		l, ok := mustMeet(t, p, q)
		if is := mustApart(t, p, q); is == ok || is != mustApart(t, q, p) {
			t.Fatalf("%v and %v are apart: %v, but have %v in common", p, q, is, l)
		}
		if mustWithin(t, p, q) && !slices.Equal(l, p) {
			t.Fatalf("%v is within %v, but has %v in common with it", p, q, l)
		}
	})
	for _, p := range append(small(t), large(t)...) {
		if l, _ := mustMeet(t, p, p); !slices.Equal(l, p) || mustApart(t, p, p) || !mustWithin(t, p, p) {
			t.Fatalf("%v has %v in common with itself", p, l)
		}
	}
}

func TestP4_7_CommonPlaces(t *testing.T) {
	eachPair(t, func(p, q []api.Point) {
		x, ok := mustCommon(t, p, q)
		if ok && !(has(p, x) && has(q, x)) {
			t.Fatalf("Common(%v, %v): %v, which is not in both", p, q, x)
		}
		if ok && mustApart(t, p, q) {
			t.Fatalf("Common(%v, %v): %v, though they are apart", p, q, x)
		}
		if !ok && len(shared(p, q))+len(shared(q, p)) > 0 {
			t.Fatalf("Common(%v, %v): none, though one has a corner of the other one", p, q)
		}
	})
}

func TestP1_AllArgumentsEnd(t *testing.T) {
	lists := slices.Concat(noPolygons(), large(t), [][]api.Point{none(), make([]api.Point, 4001)})
	halves := append(noHalves(), half(1, 0, 0), half(api.MaxID, -api.MaxID, api.MaxSpan), half(math.MinInt, math.MinInt, math.MinInt), half(math.MaxInt, math.MinInt, math.MaxInt))
	for _, p := range lists {
		for _, h := range halves {
			if l, ok, e := Cut(p, h); ok != (len(l) > 0) || e != api.OK && (ok || e != api.ErrArg) {
				t.Errorf("Cut(%v, %v): %v, %v, %v", p, h, l, ok, e)
			}
		}
		for _, q := range lists {
			if hull.Valid(p) && hull.Valid(q) {
				continue
			}
			checkNoPair(t, p, q)
		}
	}
	for _, h := range halves {
		for _, x := range append(none(), api.Point{}) {
			if is, e := In(h, x); is && e != api.OK || e != api.OK && e != api.ErrArg {
				t.Errorf("In(%v, %v): %v, %v", h, x, is, e)
			}
		}
	}
}

// A vehicle that really is in its region stays in it, however often this is cut by what is true of it (T1).
func TestP2_T1_NothingIsLost(t *testing.T) {
	random := rand.New(rand.NewSource(6))
	coord := func() int { return random.Intn(2*most+1) - most }
	polygons := append(large(t), scattered(t, 8, 40, 6, most)...)
	for _, p := range polygons {
		inside := shared(near(p), p)
		x := inside[random.Intn(len(inside))]
		for range 40 {
			h := half(random.Intn(2*api.MaxID+1)-api.MaxID, coord(), 0)
			h.C = h.A*x.X + h.B*x.Y + random.Intn(1+random.Intn(1000000000))
			q := mustHull(t, append(at(coord(), coord(), coord(), coord()), x))
			was := p
			p, _ = mustCut(t, p, h)
			if p, _ = mustMeet(t, p, q); len(p) == 0 || !has(p, x) {
				t.Fatalf("%v, cut by %v and %v: %v, but not %v", was, h, q, p, x)
			}
		}
	}
}
