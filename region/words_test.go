package region

import (
	"cmp"
	"math"
	"math/rand"
	"slices"
	"testing"

	"landfall/api"
	"landfall/cut"
	"landfall/hull"
	"landfall/mink"
)

// What the tests put together, and what the chapter says of that, computed without package region: with packages hull, cut and mink, and by comparing each polygon with each other one.

const most = api.MaxCoord

// places returns places: pairs of X and Y.
func places(l ...int) []api.Point {
	var out []api.Point
	for i := 0; i+1 < len(l); i += 2 {
		out = append(out, api.Point{X: l[i], Y: l[i+1]})
	}
	return out
}

func place(x, y int) api.Point { return api.Point{X: x, Y: y} }

func half(a, b, c int) api.Half { return api.Half{A: a, B: b, C: c} }

// list returns a list of polygons.
func list(l ...[]api.Point) [][]api.Point { return l }

// rectangle returns a rectangle as a polygon: with four corners, or as a line, or as one place.
func rectangle(lo, hi api.Point) []api.Point {
	p := []api.Point{lo, place(hi.X, lo.Y), hi, place(lo.X, hi.Y)}
	if lo.X == hi.X || lo.Y == hi.Y {
		return slices.Compact([]api.Point{lo, hi})
	}
	return p
}

func sea() []api.Point { return rectangle(place(-most, -most), place(most, most)) }

// square has all places of a square.
func square(lo, hi int) []api.Point {
	var l []api.Point
	for x := lo; x <= hi; x++ {
		for y := lo; y <= hi; y++ {
			l = append(l, place(x, y))
		}
	}
	return l
}

// scattered has hulls of random places, up to reach from 0, 0.
func scattered(t *testing.T, seed int64, polygons, corners, reach int) [][]api.Point {
	t.Helper()
	random := rand.New(rand.NewSource(seed))
	var out [][]api.Point
	for range polygons {
		var l []api.Point
		for range 1 + random.Intn(corners) {
			l = append(l, place(random.Intn(2*reach+1)-reach, random.Intn(2*reach+1)-reach))
		}
		out = append(out, mustHull(t, l))
	}
	return out
}

// tiny has all polygons with corners in the square of 3 times 3.
func tiny(t *testing.T) [][]api.Point {
	t.Helper()
	corners := square(-1, 1)
	var out [][]api.Point
	for bits := 1; bits < 1<<len(corners); bits++ {
		var l []api.Point
		for i, x := range corners {
			if bits>>i&1 == 1 {
				l = append(l, x)
			}
		}
		if p := mustHull(t, l); len(p) == len(l) {
			out = append(out, p)
		}
	}
	return out
}

// shiftedBy returns a polygon that was moved.
func shiftedBy(p []api.Point, x, y int) []api.Point {
	var out []api.Point
	for _, c := range p {
		out = append(out, place(c.X+x, c.Y+y))
	}
	return out
}

// parabola has n places that are all corners of their hull.
func parabola(n int) []api.Point {
	var l []api.Point
	for i := range n {
		l = append(l, place(i, i*i))
	}
	return l
}

// round has the corners of a polygon around a place that has 64 and is as round as they allow.
func round(x, y, size int) []api.Point {
	vectors := places(1, -8, 1, -5, 2, -7, 3, -8, 1, -2, 4, -7, 5, -7, 6, -7, 7, -7, 7, -6, 7, -5, 7, -4, 8, -4, 8, -3, 7, -2, 8, 0)
	var l []api.Point
	last := place(x-82*size, y)
	for range 4 {
		for i, v := range vectors {
			l = append(l, last)
			last = place(last.X+size*v.X, last.Y+size*v.Y)
			vectors[i] = place(-v.Y, v.X)
		}
	}
	return l
}

// picked has regions with up to 32 of some polygons, some of them twice.
func picked(seed int64, polygons [][]api.Point, sizes ...int) [][][]api.Point {
	random := rand.New(rand.NewSource(seed))
	var out [][][]api.Point
	for _, n := range sizes {
		var r [][]api.Point
		for range n {
			r = append(r, polygons[random.Intn(len(polygons))])
		}
		out = append(out, r)
	}
	return out
}

// smallRegions has regions between -5 and 5.
func smallRegions(t *testing.T) [][][]api.Point {
	t.Helper()
	out := [][][]api.Point{nil, {}, {places(0, 0)}, {places(-1, -1, 3, 2), places(3, -2)}, {rectangle(place(-5, -5), place(5, 5))}}
	out = append(out, picked(1, scattered(t, 2, 60, 3, 5), 1, 2, 3, 5, 8, 20)...)
	out = append(out, picked(3, scattered(t, 4, 60, 9, 5), 1, 2, 3, 4, 6, 9, 32)...)
	return append(out, picked(5, dots(square(-5, 5)), 2, 7, 32)...)
}

// dots has polygons of one place each.
func dots(l []api.Point) [][]api.Point {
	var out [][]api.Point
	for _, x := range l {
		out = append(out, []api.Point{x})
	}
	return out
}

// largeRegions has regions that reach far.
func largeRegions(t *testing.T) [][][]api.Point {
	t.Helper()
	far := append(scattered(t, 6, 60, 8, most), sea(), places(-most, -most), places(most, most), places(-most, most, most, -most), places(-most, 0, most, 1), places(0, -most, 0, most))
	out := [][][]api.Point{{sea()}, {places(-most, -most, most, most), places(most, -most)}}
	return append(out, picked(7, far, 1, 2, 3, 5, 9, 32)...)
}

// roundRegions has regions of polygons with many corners.
func roundRegions(t *testing.T) [][][]api.Point {
	t.Helper()
	l := [][]api.Point{parabola(64), parabola(63), shiftedBy(parabola(64), -40, -2000), places(-90, 0, 70, 33)}
	for _, by := range square(-2, 2) {
		l = append(l, round(7*by.X, 11*by.Y, 1), round(300*by.X, 300*by.Y, 5))
	}
	return append(picked(8, l, 1, 2, 4, 8), l[:6], l[6:30])
}

// spreadRegions has regions of polygons that are far from each other, so that none lies within another one: 8, 9, 31 and 32 of them.
func spreadRegions(t *testing.T, seed int64) [][][]api.Point {
	t.Helper()
	polygons := scattered(t, seed, 32, 8, 9)
	for i, p := range polygons {
		polygons[i] = shiftedBy(p, 20*(i%6)-50, 20*(i/6)-50)
	}
	return [][][]api.Point{polygons[:8], polygons[:9], polygons[1:], polygons}
}

// lines has lines across the square from -100 to 100, in one direction or the other one: those of both cross in 1024 places.
func lines(upright bool) [][]api.Point {
	var r [][]api.Point
	for i := range api.MaxPieces {
		at := 6*i - 90
		if upright {
			r = append(r, places(at, -100, at, 100))
		} else {
			r = append(r, places(-100, at, 100, at))
		}
	}
	return r
}

// steps has n rectangles, each one of which has a corner in the one before it.
func steps(n int) [][]api.Point {
	var r [][]api.Point
	for i := range n {
		r = append(r, rectangle(place(4*i, 3*i), place(4*i+9, 3*i+9)))
	}
	return r
}

// allRegions has regions of all kinds.
func allRegions(t *testing.T) [][][]api.Point {
	t.Helper()
	return slices.Concat(smallRegions(t), largeRegions(t), roundRegions(t), spreadRegions(t, 9), [][][]api.Point{lines(false), lines(true), steps(8), steps(32)})
}

// eachPair calls a function with pairs of small regions, of large ones, of ones with many corners, and of ones with many polygons.
func eachPair(t *testing.T, f func(a, b [][]api.Point)) {
	t.Helper()
	many := append(slices.Concat(spreadRegions(t, 9), spreadRegions(t, 10)), lines(false), lines(true), steps(8), steps(32))
	for _, l := range [][][][]api.Point{smallRegions(t), largeRegions(t), roundRegions(t), many} {
		for _, a := range l {
			for _, b := range l {
				f(a, b)
			}
		}
	}
}

// halves has half-planes near the regions, and far ones.
func halves() []api.Half {
	out := []api.Half{
		half(1, 0, 0), half(-1, 0, 0), half(0, 1, 0), half(0, -1, 0), half(1, 0, -500), half(0, -1, -500), half(0, 1, 499999), half(-1, 0, 499999), half(1, 1, 1000000), half(1, 1, -1000000),
		half(api.MaxID, api.MaxID, api.MaxSpan), half(-api.MaxID, api.MaxID, -api.MaxSpan), half(api.MaxID, 1, 0), half(1, -api.MaxID, 1), half(999983, -7, 3),
	}
	for _, x := range square(-3, 3) {
		for c := -60; c <= 60 && x != (api.Point{}); c += 24 {
			out = append(out, half(x.X, x.Y, c/5), half(x.X, x.Y, c))
		}
	}
	return out
}

// rectangles has the least and the greatest place of rectangles: small ones, ones beside the regions, and ones that reach far.
func rectangles() [][2]api.Point {
	var out [][2]api.Point
	for _, lo := range square(-3, 2) {
		out = append(out, [2]api.Point{lo, lo}, [2]api.Point{lo, place(lo.X+3, lo.Y)}, [2]api.Point{lo, place(lo.X+2, lo.Y+5)})
	}
	for _, l := range [][4]int{
		{-5, -5, 5, 5}, {-4, -9, 9, 9}, {-9, -4, 9, 9}, {-9, -9, 4, 9}, {-9, -9, 9, 4}, {0, -100, 0, 100}, {-100, -7, 100, -7}, {-50, -50, 50, 50}, {100, 100, 120, 110}, {20, 20, 40, 40},
		{-most, -most, most, most}, {-most, -most, -most, -most}, {most, most, most, most}, {-most, 0, most, 0}, {0, -most, 0, most}, {1 - most, 1 - most, most - 1, most - 1}, {-most, -most, 0, most}, {-most, 0, most, most}, {-90000, -4000, 300000, 77},
	} {
		out = append(out, [2]api.Point{place(l[0], l[1]), place(l[2], l[3])})
	}
	return out
}

// none has points that are no place.
func none() []api.Point {
	return places(most+1, 0, 0, most+1, -most-1, 0, 0, -most-1, most+1, most+1, math.MaxInt, 0, 0, math.MaxInt, math.MinInt, 0, 0, math.MinInt, math.MinInt, math.MinInt, math.MaxInt, math.MinInt)
}

// noPolygons has lists of points that are no polygon.
func noPolygons() [][]api.Point {
	lists := [][]api.Point{
		nil, {}, places(3, 4, 3, 4), places(3, 4, 1, 9), places(most, most, -most, -most), places(4, 0, 0, 3, 0, 0), places(0, 0, 0, 3, 4, 0),
		places(0, 0, 1, 0, 2, 0), places(0, 0, 2, 0, 4, 0, 4, 4), places(0, 0, 4, 0, 4, 4, 2, 1), places(0, 0, 4, 0, 4, 4, 0, 0),
		parabola(65), parabola(700), make([]api.Point, 65),
	}
	for _, x := range none() {
		lists = append(lists, []api.Point{x}, append(places(-most, -most), x), append(places(-most, -most, most, -most), x))
	}
	return lists
}

// noRegions has lists of polygons that are no region: too many, or one of them is no polygon.
func noRegions() [][][]api.Point {
	many := dots(square(0, 7))
	var out [][][]api.Point
	for _, n := range []int{33, 34, 64} {
		out = append(out, many[:n], slices.Repeat(many[:1], n))
	}
	for _, p := range noPolygons() {
		out = append(out, list(p), list(places(7, 7), p), list(p, sea()), append(slices.Clone(many[:31]), p), append(list(p), many[:31]...))
	}
	return out
}

// noHalves has half-planes that are not well-formed.
func noHalves() []api.Half {
	const id, span = api.MaxID, api.MaxSpan
	return []api.Half{
		half(0, 0, 0), half(0, 0, 1), half(0, 0, -1), half(id+1, 0, 0), half(-id-1, 0, 0), half(0, id+1, 0), half(0, -id-1, 0), half(1, 0, span+1), half(0, 1, -span-1),
		half(math.MaxInt, 1, 0), half(1, math.MinInt, 0), half(1, 1, math.MaxInt), half(math.MinInt, math.MinInt, math.MinInt),
	}
}

// noRectangles has pairs of points that are no rectangle.
func noRectangles() [][2]api.Point {
	out := [][2]api.Point{{place(1, 0), place(0, 0)}, {place(0, 1), place(0, 0)}, {place(5, 5), place(4, 4)}, {place(5, 0), place(4, 9)}, {place(0, 5), place(9, 4)}, {place(most, most), place(-most, -most)}}
	for _, x := range none() {
		out = append(out, [2]api.Point{x, place(0, 0)}, [2]api.Point{place(0, 0), x}, [2]api.Point{x, x}, [2]api.Point{place(-most, -most), x}, [2]api.Point{x, place(most, most)})
	}
	return out
}

func mustHull(t *testing.T, l []api.Point) []api.Point {
	t.Helper()
	p, e := hull.Hull(l)
	if e != api.OK {
		t.Fatalf("hull.Hull(%v): %v", l, e)
	}
	return p
}

// polygonHas says by the words of layer 3 whether a polygon has a place.
func polygonHas(p []api.Point, x api.Point) bool {
	for i, a := range p {
		b := p[(i+1)%len(p)]
		if (b.X-a.X)*(x.Y-a.Y)-(b.Y-a.Y)*(x.X-a.X) < 0 {
			return false
		}
	}
	a, b := p[0], p[len(p)-1]
	return len(p) > 2 || a.X <= x.X && x.X <= b.X && min(a.Y, b.Y) <= x.Y && x.Y <= max(a.Y, b.Y)
}

// regionHas says whether one of the polygons has a place.
func regionHas(r [][]api.Point, x api.Point) bool {
	return slices.ContainsFunc(r, func(p []api.Point) bool { return polygonHas(p, x) })
}

func hasAll(p, l []api.Point) bool {
	return !slices.ContainsFunc(l, func(x api.Point) bool { return !polygonHas(p, x) })
}

// same says whether two lists of polygons are equal.
func same(a, b [][]api.Point) bool {
	return slices.EqualFunc(a, b, func(p, q []api.Point) bool { return slices.Equal(p, q) })
}

// around has places of a region, and places beside it: its corners, those in the middle between two of them, and those near all these. (So it has all places of a small region.)
func around(r [][]api.Point) []api.Point {
	var l []api.Point
	for _, p := range r {
		for i, a := range p {
			b := p[(i+1+len(p)/3)%len(p)]
			for _, by := range square(-1, 1) {
				l = append(l, place(a.X+by.X, a.Y+by.Y), place((a.X+b.X)/2+by.X, (a.Y+b.Y)/2+by.Y))
			}
		}
	}
	l = append(l, square(-6, 6)...)
	slices.SortFunc(l, func(x, y api.Point) int { return cmp.Or(x.X-y.X, x.Y-y.Y) })
	return slices.DeleteFunc(slices.Compact(l), func(x api.Point) bool { return !isAPlace(x) })
}

func isAPlace(x api.Point) bool { return max(x.X, -x.X, x.Y, -x.Y) <= most }

// placesOf has those of the places around a region that it has.
func placesOf(r [][]api.Point) []api.Point {
	return slices.DeleteFunc(around(r), func(x api.Point) bool { return !regionHas(r, x) })
}

// outermost has those polygons of a list that lie within no other one, and of equal ones the first one.
func outermost(l [][]api.Point) [][]api.Point {
	var out [][]api.Point
	for i, p := range l {
		within := false
		for k, q := range l {
			equal := slices.Equal(p, q)
			within = within || i != k && (!equal || k < i) && hasAll(q, p)
		}
		if !within {
			out = append(out, p)
		}
	}
	return out
}

// tidy says what the chapter says of a tidied list.
func tidy(t *testing.T, l [][]api.Point) [][]api.Point {
	t.Helper()
	out := outermost(l)
	if len(out) <= 32 {
		return out
	}
	return append(slices.Clone(out[:31]), eightSided(t, slices.Concat(out[31:]...)))
}

// eightSided has the least polygon with sides in eight directions that has all places of a list: the hull of all points at which two of the lines cross that bound X, Y, X + Y and X - Y, and that keep all these bounds.
func eightSided(t *testing.T, l []api.Point) []api.Point {
	t.Helper()
	values := func(x api.Point) [4]int { return [4]int{x.X, x.Y, x.X + x.Y, x.X - x.Y} }
	lo, hi := values(l[0]), values(l[0])
	for _, x := range l {
		for i, v := range values(x) {
			lo[i], hi[i] = min(lo[i], v), max(hi[i], v)
		}
	}
	var corners []api.Point
	for _, b := range [][4]int{lo, hi} {
		for _, c := range [][4]int{lo, hi} {
			corners = append(corners, places(b[0], c[1], b[0], c[2]-b[0], b[0], b[0]-c[3], c[2]-b[1], b[1], c[3]+b[1], b[1])...)
			if (b[2]+c[3])%2 == 0 {
				corners = append(corners, place((b[2]+c[3])/2, (b[2]-c[3])/2))
			}
		}
	}
	return mustHull(t, slices.DeleteFunc(corners, func(x api.Point) bool {
		for i, v := range values(x) {
			if v < lo[i] || v > hi[i] {
				return true
			}
		}
		return false
	}))
}

// leftOf has what some half-planes, one after the other, leave of a polygon: one polygon, or none.
func leftOf(t *testing.T, p []api.Point, halves ...api.Half) [][]api.Point {
	t.Helper()
	for _, h := range halves {
		q, ok, e := cut.Cut(p, h)
		if e != api.OK {
			t.Fatalf("cut.Cut(%v, %v): %v", p, h, e)
		}
		if !ok {
			return nil
		}
		p = q
	}
	return list(p)
}

// parts has what is left of each polygon of a region by a half-plane.
func parts(t *testing.T, r [][]api.Point, h api.Half) [][]api.Point {
	t.Helper()
	var l [][]api.Point
	for _, p := range r {
		l = append(l, leftOf(t, p, h)...)
	}
	return l
}

// shared has what each polygon of one region has in common with each one of another one.
func shared(t *testing.T, a, b [][]api.Point) [][]api.Point {
	t.Helper()
	var l [][]api.Point
	for _, p := range a {
		for _, q := range b {
			m, ok, e := cut.Meet(p, q)
			if e != api.OK {
				t.Fatalf("cut.Meet(%v, %v): %v", p, q, e)
			}
			if ok {
				l = append(l, m)
			}
		}
	}
	return l
}

// sums has the sums of each polygon of a region and another one, or the error.
func sums(r [][]api.Point, p []api.Point) (l [][]api.Point, e api.Errno) {
	for _, q := range r {
		s, e := mink.Sum(q, p)
		if e != api.OK {
			return nil, e
		}
		l = append(l, s)
	}
	return l, api.OK
}

// remains has what is left of each polygon of a region without a rectangle.
func remains(t *testing.T, r [][]api.Point, lo, hi api.Point) [][]api.Point {
	t.Helper()
	var l [][]api.Point
	for _, p := range r {
		l = append(l, leftOf(t, p, half(1, 0, lo.X-1))...)
		l = append(l, leftOf(t, p, half(-1, 0, -(hi.X+1)))...)
		l = append(l, leftOf(t, p, half(-1, 0, -lo.X), half(1, 0, hi.X), half(0, 1, lo.Y-1))...)
		l = append(l, leftOf(t, p, half(-1, 0, -lo.X), half(1, 0, hi.X), half(0, -1, -(hi.Y+1)))...)
	}
	return l
}
