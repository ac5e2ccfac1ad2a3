package ring

import (
	"math"
	"math/rand"
	"slices"
	"testing"

	"landfall/api"
	"landfall/hull"
	"landfall/mink"
	"landfall/ray"
	"landfall/region"
)

// What the tests ask for, and what the chapter says of that, computed without package ring: with the layers below it.

const most = api.MaxCoord

// round counts the ways by which the tests go around a middle.
const round = 640

func place(x, y int) api.Point { return api.Point{X: x, Y: y} }

// places returns places: pairs of X and Y.
func places(l ...int) []api.Point {
	var out []api.Point
	for i := 0; i+1 < len(l); i += 2 {
		out = append(out, place(l[i], l[i+1]))
	}
	return out
}

// single returns a region of single places.
func single(l []api.Point) [][]api.Point {
	var out [][]api.Point
	for _, x := range l {
		out = append(out, []api.Point{x})
	}
	return out
}

// list returns a list of polygons.
func list(l ...[]api.Point) [][]api.Point { return l }

// square has all places of a square.
func square(lo, hi int) []api.Point {
	var l []api.Point
	for x := lo; x <= hi; x++ {
		for y := lo; y <= hi; y++ {
			l = append(l, place(x, y))
		}
	}
	return l
}

// same says whether two lists of polygons are equal.
func same(a, b [][]api.Point) bool {
	return slices.EqualFunc(a, b, func(p, q []api.Point) bool { return slices.Equal(p, q) })
}

// copied returns a list of polygons in memory of its own.
func copied(r [][]api.Point) [][]api.Point {
	var out [][]api.Point
	for _, p := range r {
		out = append(out, slices.Clone(p))
	}
	return out
}

func mustHull(t *testing.T, l []api.Point) []api.Point {
	t.Helper()
	p, e := hull.Hull(l)
	if e != api.OK {
		t.Fatalf("hull.Hull(%v): %v", l, e)
	}
	return p
}

func minus(a, b api.Point) api.Point { return place(a.X-b.X, a.Y-b.Y) }

func plus(a, b api.Point) api.Point { return place(a.X+b.X, a.Y+b.Y) }

// squared is the square of how far two places are from each other.
func squared(a, b api.Point) int {
	v := minus(a, b)
	return v.X*v.X + v.Y*v.Y
}

func isAPlace(x api.Point) bool { return max(x.X, -x.X, x.Y, -x.Y) <= most }

// isAway says by the words of the chapter whether a place is at distances from another one.
func isAway(d api.Span, from, x api.Point) bool {
	return d.Lo*d.Lo <= squared(from, x) && squared(from, x) <= d.Hi*d.Hi
}

// has says whether a polygon of a region has a place.
func has(t *testing.T, r [][]api.Point, x api.Point) bool {
	t.Helper()
	is, e := region.Has(r, x)
	if e != api.OK {
		t.Fatalf("region.Has(%v, %v): %v", r, x, e)
	}
	return is
}

// sees says by the words of the chapter whether a place sees a beacon between the rays a and a + n.
func sees(t *testing.T, x, beacon api.Point, a, n int) bool {
	t.Helper()
	if x == beacon {
		return true
	}
	is, e := ray.Between(a, n, minus(beacon, x))
	if e != api.OK {
		t.Fatalf("ray.Between(%d, %d, %v): %v", a, n, minus(beacon, x), e)
	}
	return is
}

// sectorsOf has the 32 sectors of the ring around 0, 0.
func sectorsOf(t *testing.T, d api.Span) [][]api.Point {
	t.Helper()
	var l [][]api.Point
	for i := range 32 {
		p, e := ray.Sector(2*i, 2, d)
		if e != api.OK {
			t.Fatalf("ray.Sector(%d, 2, %v): %v", 2*i, d, e)
		}
		l = append(l, p)
	}
	return l
}

// ringOf is the ring around a place by the words of the chapter, or the error.
func ringOf(t *testing.T, at api.Point, d api.Span) ([][]api.Point, api.Errno) {
	t.Helper()
	var l [][]api.Point
	for _, s := range sectorsOf(t, d) {
		p, e := mink.Shift(s, at)
		if e != api.OK {
			return nil, e
		}
		l = append(l, p)
	}
	return region.Tidy(l)
}

// wedgeOf is what a bearing leaves of a region by the words of the chapter.
func wedgeOf(t *testing.T, r [][]api.Point, at api.Point, a, n int) [][]api.Point {
	t.Helper()
	first, _ := ray.Ray(a)
	last, _ := ray.Ray((a + n) % 64)
	u, v, s, w := first.X, first.Y, last.X, last.Y
	l := []api.Half{{A: -v, B: u, C: u*at.Y - v*at.X}, {A: w, B: -s, C: w*at.X - s*at.Y}}
	if first == last {
		l = append(l, api.Half{A: u, B: v, C: u*at.X + v*at.Y})
	}
	for _, h := range l {
		left, e := region.Cut(r, h)
		if e != api.OK {
			t.Fatalf("region.Cut(%v, %v): %v", r, h, e)
		}
		r = left
	}
	return r
}

// spans has distances: the ends of what is allowed, those at which sectors need no rounding, and others.
func spans() []api.Span {
	l := []api.Span{
		{}, {Lo: 0, Hi: 1}, {Lo: 1, Hi: 1}, {Lo: 0, Hi: 2}, {Lo: 1, Hi: 2}, {Lo: 2, Hi: 2}, {Lo: 3, Hi: 3}, {Lo: 5, Hi: 5}, {Lo: 0, Hi: 7}, {Lo: 3, Hi: 9}, {Lo: 12, Hi: 12}, {Lo: 24, Hi: 31}, {Lo: 0, Hi: 82}, {Lo: 81, Hi: 82}, {Lo: 300, Hi: 300}, {Lo: 301, Hi: 420},
		{Lo: 0, Hi: 998}, {Lo: 998, Hi: 998}, {Lo: 1001, Hi: 1001}, {Lo: 1001, Hi: 1996}, {Lo: 2002, Hi: 2994}, {Lo: 1000, Hi: 1000}, {Lo: 500, Hi: 520},
		{Lo: 0, Hi: 100000}, {Lo: 1, Hi: 100000}, {Lo: 50000, Hi: 100000}, {Lo: 99999, Hi: 100000}, {Lo: 100000, Hi: 100000}, {Lo: 0, Hi: 99999}, {Lo: 99099, Hi: 99800},
	}
	random := rand.New(rand.NewSource(1))
	for _, limit := range []int{20, 300, 5000, 100000} {
		for range 5 {
			hi := random.Intn(limit + 1)
			l = append(l, api.Span{Lo: random.Intn(hi + 1), Hi: hi})
		}
	}
	return l
}

// reach is how far from the middle the places of a ring are at the most, in X and in Y: those of the rays along X and Y, of 1000.
func reach(d api.Span) int { return (1000*d.Hi + 997) / 998 }

// middles has places, those among them around which the ring of some distances reaches to where places end, and those that are 1 too far for that.
func middles(d api.Span) []api.Point {
	end := most - reach(d)
	l := places(0, 0, 10, -20, -3, 4, -123457, 99999, end, end, -end, end, end, -end, -end, -end, end, 0, 0, end, -end, 0, 0, -end)
	return append(l, places(end+1, 0, -end-1, 0, 0, end+1, 0, -end-1, end+1, -end, -end, end+1, most, most, -most, most, 0, -most, most, 0, -most, 5, 7, most)...)
}

// atLength has places as near to a distance from 0, 0 as there are, all around: not nearer than it if beyond is set, otherwise not farther.
func atLength(distance int, beyond bool) []api.Point {
	var l []api.Point
	for k := range round / 4 {
		x := int(math.Round(float64(distance) * math.Sin(float64(4*k)/round*math.Pi/2)))
		y := int(math.Sqrt(float64(max(0, distance*distance-x*x))))
		for y > 0 && x*x+y*y > distance*distance {
			y--
		}
		if beyond && x*x+y*y < distance*distance {
			y++
		}
		l = append(l, places(x, y, -y, x, -x, -y, y, -x)...)
	}
	return l
}

// ends has the places at distances from 0, 0 that are nearest to the ends of these distances, all around.
func ends(d api.Span) []api.Point {
	l := slices.Concat(atLength(d.Hi, false), atLength(d.Lo, true))
	return slices.DeleteFunc(l, func(x api.Point) bool { return !isAway(d, api.Point{}, x) })
}

// waves has 64 places that are all corners of their hull, far from each other.
func waves() []api.Point {
	var l []api.Point
	for i := range 64 {
		l = append(l, place(100*i-3200, 5*(i-32)*(i-32)-2000))
	}
	return l
}

// sea has all places.
func sea() []api.Point { return places(-most, -most, most, -most, most, most, -most, most) }

// scattered has hulls of random places, up to far from 0, 0.
func scattered(t *testing.T, seed int64, polygons, corners, far int) [][]api.Point {
	t.Helper()
	random := rand.New(rand.NewSource(seed))
	var out [][]api.Point
	for range polygons {
		var l []api.Point
		for range 1 + random.Intn(corners) {
			l = append(l, place(random.Intn(2*far+1)-far, random.Intn(2*far+1)-far))
		}
		out = append(out, mustHull(t, l))
	}
	return out
}

// smallRegions has regions up to 12 from 0, 0.
func smallRegions(t *testing.T) [][][]api.Point {
	t.Helper()
	return [][][]api.Point{
		nil, {}, {places(0, 0)}, {places(-1, -1, 3, 2), places(3, -2)}, {places(-12, -12, 12, -12, 12, 12, -12, 12)}, {places(-12, 0, 12, 1)}, {places(-12, 12, 12, -12), places(-12, -12, 12, 12)},
		scattered(t, 2, 1, 8, 12), scattered(t, 3, 3, 8, 12), scattered(t, 4, 9, 3, 12), scattered(t, 5, 32, 3, 12), single(square(-2, 2)), single(square(-2, 3)[:32]),
	}
}

// largeRegions has regions that reach far, with up to 64 corners and 32 polygons.
func largeRegions(t *testing.T) [][][]api.Point {
	t.Helper()
	return [][][]api.Point{
		{sea()}, {places(-most, -most, most, most), places(most, -most)}, {waves()}, {waves(), places(-90000, 0, 70000, 33)}, {places(0, 0, 1000, 0)},
		scattered(t, 6, 1, 8, most), scattered(t, 7, 5, 8, 100000), scattered(t, 8, 32, 8, 3000), scattered(t, 9, 32, 3, most), single(places(-most, -most, -most, most, most, -most, most, most, 0, 0)),
	}
}

// allRegions has regions of all kinds.
func allRegions(t *testing.T) [][][]api.Point {
	t.Helper()
	return append(smallRegions(t), largeRegions(t)...)
}

// beside has places from which a beacon is seen along all rays, between them, and as little beside them as there is, near and far; the beacon, and what is next to it; and far places.
func beside(beacon api.Point) []api.Point {
	l := places(most, most, -most, most, most, -most, -most, -most, most, 0, 0, -most)
	for _, by := range square(-2, 2) {
		l = append(l, plus(beacon, by))
	}
	for k := range 64 {
		r, _ := ray.Ray(k)
		next, _ := ray.Ray((k + 1) % 64)
		p, q := bezout(r.X, r.Y)
		least := place(-q, p)
		for _, v := range []api.Point{r, plus(r, next), plus(r, least), minus(r, least)} {
			far := plus(v, place(200*r.X, 200*r.Y))
			l = append(l, minus(beacon, v), minus(beacon, far))
		}
	}
	return slices.DeleteFunc(l, func(x api.Point) bool { return !isAPlace(x) })
}

// bezout returns p and q so that p * a + q * b is the greatest common divisor of a and b, or the opposite of it. (That is the cross product of a, b and -q, p: no other one is nearer to 0, but 0 itself.)
func bezout(a, b int) (p, q int) {
	if b == 0 {
		return 1, 0
	}
	p, q = bezout(b, a%b)
	return q, p - a/b*q
}

// parts has the elements of a list, up to 32 at a time.
func parts(l []api.Point) [][]api.Point { return slices.Collect(slices.Chunk(l, 32)) }

// none has points that are no place.
func none() []api.Point {
	return places(most+1, 0, 0, most+1, -most-1, 0, 0, -most-1, most+1, most+1, math.MaxInt, 0, 0, math.MaxInt, math.MinInt, 0, 0, math.MinInt, math.MinInt, math.MinInt, math.MaxInt, math.MinInt, 1<<32, 0)
}

// noDistances has spans that are no distances.
func noDistances() []api.Span {
	return []api.Span{
		{Lo: -1}, {Lo: -1, Hi: 1}, {Lo: -1, Hi: -1}, {Lo: 3, Hi: 2}, {Lo: 1, Hi: 0}, {Lo: 0, Hi: 100001}, {Lo: 100001, Hi: 100001}, {Lo: 100001, Hi: 100000}, {Lo: 0, Hi: -1},
		{Lo: math.MinInt, Hi: math.MaxInt}, {Lo: math.MaxInt, Hi: math.MinInt}, {Lo: 0, Hi: math.MaxInt}, {Lo: math.MinInt}, {Lo: math.MaxInt, Hi: math.MaxInt}, {Lo: math.MinInt, Hi: math.MinInt}, {Lo: 0, Hi: 1 << 32},
	}
}

// noRegions has lists of polygons that are no region: too many, or one of them is no polygon.
func noRegions() [][][]api.Point {
	out := [][][]api.Point{single(square(0, 7)[:33]), single(square(0, 7)), slices.Repeat(list(places(1, 1)), 33)}
	for _, p := range append(single(none()), nil, places(3, 4, 3, 4), places(3, 4, 1, 9), places(0, 0, 0, 3, 4, 0), places(0, 0, 1, 0, 2, 0), make([]api.Point, 65)) {
		out = append(out, list(p), list(places(7, 7), p), append(single(square(0, 5)[:31]), p))
	}
	return out
}

// noRays has pairs of an a and an n, at least one of which is none.
func noRays() [][2]int {
	var out [][2]int
	for _, a := range []int{-1, 64, 65, 128, -64, math.MaxInt, math.MinInt} {
		out = append(out, [2]int{a, 0}, [2]int{a, 31}, [2]int{a, -1}, [2]int{a, 32})
	}
	for _, n := range []int{-1, 32, 33, 63, 64, -32, -64, math.MaxInt, math.MinInt} {
		out = append(out, [2]int{0, n}, [2]int{63, n})
	}
	return out
}
