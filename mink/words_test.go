package mink

import (
	"math"
	"math/rand"
	"slices"
	"testing"

	"landfall/api"
	"landfall/hull"
)

// What the tests add, and what the chapter says of that, computed without package mink: from all sums of corners.

const most = api.MaxCoord

// at returns places: pairs of X and Y.
func at(l ...int) []api.Point {
	var out []api.Point
	for i := 0; i+1 < len(l); i += 2 {
		out = append(out, api.Point{X: l[i], Y: l[i+1]})
	}
	return out
}

// square has all places of a square.
func square(lo, hi int) []api.Point {
	var l []api.Point
	for x := lo; x <= hi; x++ {
		for y := lo; y <= hi; y++ {
			l = append(l, api.Point{X: x, Y: y})
		}
	}
	return l
}

// scattered has hulls of random places, up to reach from 0, 0.
func scattered(t *testing.T, seed int64, polygons, places, reach int) [][]api.Point {
	t.Helper()
	random := rand.New(rand.NewSource(seed))
	var out [][]api.Point
	for range polygons {
		var l []api.Point
		for range 1 + random.Intn(places) {
			l = append(l, api.Point{X: random.Intn(2*reach+1) - reach, Y: random.Intn(2*reach+1) - reach})
		}
		out = append(out, mustHull(t, l))
	}
	return out
}

// tiny has all polygons with corners in the square of 3 times 3.
func tiny(t *testing.T) [][]api.Point {
	t.Helper()
	places := square(-1, 1)
	var out [][]api.Point
	for bits := 1; bits < 1<<len(places); bits++ {
		var l []api.Point
		for i, x := range places {
			if bits>>i&1 == 1 {
				l = append(l, x)
			}
		}
		if p := mustHull(t, l); len(p) == len(l) {
			out = append(out, p)
		}
	}
	return out
}

// small has polygons between -6 and 6, of one, two, and more corners.
func small(t *testing.T) [][]api.Point {
	t.Helper()
	return slices.Concat(scattered(t, 1, 15, 1, 6), scattered(t, 2, 30, 3, 6), scattered(t, 3, 40, 12, 6))
}

// large has polygons that reach far, some so far that there are no sums of them.
func large(t *testing.T) [][]api.Point {
	t.Helper()
	return append(slices.Concat(scattered(t, 4, 25, 10, most/2), scattered(t, 5, 8, 8, most), scattered(t, 6, 6, 9, 3)),
		at(0, 0), at(most, most), at(-most, -most), at(-most, 0, most, 1), at(0, -most, 0, most), at(-most, -most, most, most-1), at(-most, 1, most, -1),
		at(-most, -most, most, -most, most, most, -most, most), at(-most, -most, most, -most, -most, most), at(most-1, most, most, -most, most, most), at(0, 1-most, most-1, 0, 0, most-1))
}

// curved has polygons with many corners: their sums have too many, or up to 64, and some of these lie beyond the limits.
func curved(t *testing.T) [][]api.Point {
	t.Helper()
	out := [][]api.Point{
		round(0, 0, 1), round(9, 5, 3), round(0, 0, 3000), round(-200, 77, 6000), turned(t, round(0, 0, 13)), turned(t, round(0, 0, 2600)), opposite(t, turned(t, round(26, -13, 13))),
		at(0, 0), at(0, 0, 1, 0), at(0, 0, 0, 9), at(-7, 3, 4, 5), at(0, 0, 63, 3969), at(0, 0, 1, 1), at(0, 0, 1, 1, 0, 1), at(-5, -5, 5, -5, 5, 5, -5, 5), at(-most, 0, most, 1),
	}
	for _, n := range []int{20, 32, 33, 34, 62, 63, 64} {
		out = append(out, parabola(n), opposite(t, parabola(n)))
	}
	return out
}

// parabola has n places that are all corners of their hull.
func parabola(n int) []api.Point {
	var l []api.Point
	for i := range n {
		l = append(l, api.Point{X: i, Y: i * i})
	}
	return l
}

// round has the corners of a polygon around a place that has 64 and is as round as they allow.
func round(x, y, size int) []api.Point {
	vectors := at(1, -8, 1, -5, 2, -7, 3, -8, 1, -2, 4, -7, 5, -7, 6, -7, 7, -7, 7, -6, 7, -5, 7, -4, 8, -4, 8, -3, 7, -2, 8, 0)
	var l []api.Point
	last := api.Point{X: x - 82*size, Y: y}
	for range 4 {
		for i, v := range vectors {
			l = append(l, last)
			last = api.Point{X: last.X + size*v.X, Y: last.Y + size*v.Y}
			vectors[i] = api.Point{X: -v.Y, Y: v.X}
		}
	}
	return l
}

// turned turns a polygon by the smallest angle of the triangle with sides 5, 12 and 13; its coordinates are multiples of 13.
func turned(t *testing.T, p []api.Point) []api.Point {
	t.Helper()
	var l []api.Point
	for _, c := range p {
		l = append(l, api.Point{X: (12*c.X - 5*c.Y) / 13, Y: (5*c.X + 12*c.Y) / 13})
	}
	return mustHull(t, l)
}

// opposite has the opposite X and Y of all corners of a polygon.
func opposite(t *testing.T, p []api.Point) []api.Point {
	t.Helper()
	var l []api.Point
	for _, c := range p {
		l = append(l, api.Point{X: -c.X, Y: -c.Y})
	}
	return mustHull(t, l)
}

// eachPair calls a function with pairs of small polygons, of large ones, and of ones with many corners.
func eachPair(t *testing.T, f func(p, q []api.Point)) {
	t.Helper()
	for _, l := range [][][]api.Point{small(t), large(t), curved(t)} {
		for _, p := range l {
			for _, q := range l {
				f(p, q)
			}
		}
	}
}

// none has points that are no place.
func none() []api.Point {
	return at(most+1, 0, 0, most+1, -most-1, 0, 0, -most-1, most+1, most+1, math.MaxInt, 0, 0, math.MaxInt, math.MinInt, 0, 0, math.MinInt, math.MinInt, math.MinInt, math.MaxInt, math.MinInt)
}

// noPolygons has lists of points that are no polygon.
func noPolygons() [][]api.Point {
	lists := [][]api.Point{
		nil, {}, at(3, 4, 3, 4), at(3, 4, 1, 9), at(most, most, -most, -most), at(4, 0, 0, 3, 0, 0), at(0, 0, 0, 3, 4, 0),
		at(0, 0, 1, 0, 2, 0), at(0, 0, 2, 0, 4, 0, 4, 4), at(0, 0, 4, 0, 4, 4, 2, 1), at(0, 0, 4, 0, 4, 4, 0, 0), at(-2, 0, 1, -2, 1, 2, -1, -2, 2, 0, -1, 2),
		parabola(65), parabola(700), parabola(5000), make([]api.Point, 65),
	}
	for _, x := range none() {
		lists = append(lists, []api.Point{x}, append(at(-most, -most), x), append(at(-most, -most, most, -most), x))
	}
	return lists
}

func mustHull(t *testing.T, l []api.Point) []api.Point {
	t.Helper()
	p, e := hull.Hull(l)
	if e != api.OK {
		t.Fatalf("hull.Hull(%v): %v", l, e)
	}
	return p
}

// has says by the words of layer 3 whether a polygon has a place.
func has(p []api.Point, x api.Point) bool {
	for i, a := range p {
		if leftOf(a, p[(i+1)%len(p)], x) < 0 {
			return false
		}
	}
	a, b := p[0], p[len(p)-1]
	return len(p) > 2 || a.X <= x.X && x.X <= b.X && min(a.Y, b.Y) <= x.Y && x.Y <= max(a.Y, b.Y)
}

// inside has the places that a small polygon has.
func inside(p []api.Point) []api.Point {
	return slices.DeleteFunc(square(-6, 6), func(x api.Point) bool { return !has(p, x) })
}

// some has corners of a polygon, and places in the middle between two of them, or near it: those that it has.
func some(p []api.Point) []api.Point {
	l := slices.Clone(p)
	for i, a := range p {
		b := p[(i+1+len(p)/3)%len(p)]
		for _, by := range square(0, 1) {
			l = append(l, api.Point{X: (a.X+b.X)/2 + by.X, Y: (a.Y+b.Y)/2 + by.Y})
		}
	}
	return slices.DeleteFunc(l, func(x api.Point) bool { return !has(p, x) })
}

// leftOf is the product by which layer 3 says what lies on the left.
func leftOf(a, b, x api.Point) int { return (b.X-a.X)*(x.Y-a.Y) - (b.Y-a.Y)*(x.X-a.X) }

func distance(a, b api.Point) int { return (b.X-a.X)*(b.X-a.X) + (b.Y-a.Y)*(b.Y-a.Y) }

func before(a, b api.Point) int {
	if a.X != b.X {
		return a.X - b.X
	}
	return a.Y - b.Y
}

// wrapped finds the corners of a hull one after the other: behind each one comes that which has no point on the right, and the farthest of these.
func wrapped(l []api.Point) []api.Point {
	p := []api.Point{slices.MinFunc(l, before)}
	for {
		a := p[len(p)-1]
		next := a
		for _, x := range l {
			side := leftOf(a, next, x)
			if next == a || side < 0 || side == 0 && distance(a, x) > distance(a, next) {
				next = x
			}
		}
		if next == p[0] {
			return p
		}
		p = append(p, next)
	}
}

// sums has all sums of a corner of the one and a corner of the other one.
func sums(p, q []api.Point) []api.Point {
	var l []api.Point
	for _, a := range p {
		for _, b := range q {
			l = append(l, api.Point{X: a.X + b.X, Y: a.Y + b.Y})
		}
	}
	return l
}

// added says what the chapter says of the sum of two polygons: the hull of all sums of their corners, or if it has too many corners, its eight-sided hull, which is made wider by one corner after the other; and whether that is so.
func added(t *testing.T, p, q []api.Point) (s []api.Point, tooMany bool, e api.Errno) {
	t.Helper()
	corners := wrapped(sums(p, q))
	for _, c := range corners {
		if max(c.X, -c.X, c.Y, -c.Y) > most {
			return nil, false, api.ErrRange
		}
	}
	if len(corners) <= api.MaxCorners {
		return corners, false, api.OK
	}
	for _, c := range corners {
		l := mustHull(t, append(s, c))
		if s, e = hull.Eight(l); e != api.OK {
			t.Fatalf("hull.Eight(%v): %v", l, e)
		}
	}
	return s, true, api.OK
}

// reach is how far a polygon reaches in a direction.
func reach(p []api.Point, way api.Point) int {
	far := math.MinInt
	for _, c := range p {
		far = max(far, c.X*way.X+c.Y*way.Y)
	}
	return far
}

// directions has the directions of the axes, those between them, and those in which sides of polygons look, and the opposite ones.
func directions(polygons ...[]api.Point) []api.Point {
	ways := slices.DeleteFunc(square(-3, 3), func(x api.Point) bool { return x == (api.Point{}) })
	for _, p := range polygons {
		for i, a := range p {
			b := p[(i+1)%len(p)]
			ways = append(ways, at(b.Y-a.Y, a.X-b.X, a.Y-b.Y, b.X-a.X)...)
		}
	}
	return ways
}
