package cut

import (
	"math"
	"math/big"
	"math/rand"
	"slices"
	"testing"

	"landfall/api"
	"landfall/hull"
)

// What the tests cut, and what the chapter says of that, computed without package cut: with fractions, and with numbers that have no limits.

const most = api.MaxCoord

// at returns places: pairs of X and Y.
func at(l ...int) []api.Point {
	var out []api.Point
	for i := 0; i+1 < len(l); i += 2 {
		out = append(out, api.Point{X: l[i], Y: l[i+1]})
	}
	return out
}

func half(a, b, c int) api.Half { return api.Half{A: a, B: b, C: c} }

func opposite(h api.Half) api.Half { return half(-h.A, -h.B, -h.C) }

// square has all places of a square.
func square(lo, hi int) []api.Point {
	var l []api.Point
	for x := lo; x <= hi; x++ {
		for y := lo; y <= hi; y++ {
			l = append(l, api.Point{X: x, Y: y})
		}
	}
	return l
}

// scattered has hulls of random places, up to reach from 0, 0.
func scattered(t *testing.T, seed int64, polygons, places, reach int) [][]api.Point {
	random := rand.New(rand.NewSource(seed))
	var out [][]api.Point
	for range polygons {
		var l []api.Point
		for range 1 + random.Intn(places) {
			l = append(l, api.Point{X: random.Intn(2*reach+1) - reach, Y: random.Intn(2*reach+1) - reach})
		}
		out = append(out, mustHull(t, l))
	}
	return out
}

// tiny has all polygons with corners in the square of 3 times 3.
func tiny(t *testing.T) [][]api.Point {
	places := square(-1, 1)
	var out [][]api.Point
	for bits := 1; bits < 1<<len(places); bits++ {
		var l []api.Point
		for i, x := range places {
			if bits>>i&1 == 1 {
				l = append(l, x)
			}
		}
		if p := mustHull(t, l); len(p) == len(l) {
			out = append(out, p)
		}
	}
	return out
}

// small has polygons between -5 and 5.
func small(t *testing.T) [][]api.Point {
	return slices.Concat(tiny(t), scattered(t, 1, 30, 3, 5), scattered(t, 2, 30, 9, 5))
}

// large has polygons that reach far, and those with 64 corners.
func large(t *testing.T) [][]api.Point {
	return append(scattered(t, 3, 60, 10, most),
		at(-most, -most, most, -most, most, most, -most, most), at(-most, -most, most, most), at(-most, most, most, -most), at(most, most), at(-most, -most), at(-most, 0, most, 1), at(0, -most, 1, most),
		at(-most, -most, most, -most, -most, most), at(most-1, most, most, -most, most, most), at(-most, -most, most, most-1, most, most), at(-most, -most, 1-most, -most, most, most),
		round(0, 0, 5005), turned(t, round(0, 0, 5005)), turned(t, round(0, 0, 13)), round(0, 1, 5001), round(77, 33, 4990), round(0, 0, 13), parabola(64), parabola(63))
}

// parabola has n places that are all corners of their hull.
func parabola(n int) []api.Point {
	var l []api.Point
	for i := range n {
		l = append(l, api.Point{X: i, Y: i * i})
	}
	return l
}

// round has the corners of a polygon around a place that has 64 and is as round as they allow.
func round(x, y, size int) []api.Point {
	vectors := at(1, -8, 1, -5, 2, -7, 3, -8, 1, -2, 4, -7, 5, -7, 6, -7, 7, -7, 7, -6, 7, -5, 7, -4, 8, -4, 8, -3, 7, -2, 8, 0)
	var l []api.Point
	last := api.Point{X: x - 82*size, Y: y}
	for range 4 {
		for i, v := range vectors {
			l = append(l, last)
			last = api.Point{X: last.X + size*v.X, Y: last.Y + size*v.Y}
			vectors[i] = api.Point{X: -v.Y, Y: v.X}
		}
	}
	return l
}

// turned turns a polygon by the smallest angle of the triangle with sides 5, 12 and 13; its coordinates are multiples of 13.
func turned(t *testing.T, p []api.Point) []api.Point {
	var l []api.Point
	for _, c := range p {
		l = append(l, api.Point{X: (12*c.X - 5*c.Y) / 13, Y: (5*c.X + 12*c.Y) / 13})
	}
	return mustHull(t, l)
}

// smallHalves has the half-planes with small numbers whose edges are near the small polygons.
func smallHalves() []api.Half {
	var out []api.Half
	for _, x := range square(-3, 3) {
		for c := -7; c <= 7 && (x != api.Point{}); c++ {
			out = append(out, half(x.X, x.Y, c))
		}
	}
	return out
}

// largeHalves has half-planes with numbers up to the limits.
func largeHalves() []api.Half {
	random := rand.New(rand.NewSource(4))
	const id, span = api.MaxID, api.MaxSpan
	var out []api.Half
	for _, c := range []int{0, 1, -1, most, span, -span, span - 1, 1 - span, span / 2, -span / 2} {
		out = append(out, half(id, id, c), half(-id, id, c), half(id, -id, c), half(-id, -id, c), half(id, 0, c), half(0, -id, c), half(1, 0, c), half(0, -1, c), half(id, 1-id, c), half(-1, id, c))
	}
	for range 60 {
		a, b := random.Intn(2*id+1)-id, random.Intn(2*id+1)-id
		x, y := random.Intn(2*most+1)-most, random.Intn(2*most+1)-most
		out = append(out, half(a, b, a*x+b*y), half(a, b, random.Intn(2*span+1)-span), half(a/most, b/1000, (a*x+b*y)/3000000))
	}
	return slices.DeleteFunc(out, func(h api.Half) bool { return h.A == 0 && h.B == 0 })
}

// beside has half-planes whose edges pass through two corners of a polygon, or right beside them.
func beside(p []api.Point) []api.Half {
	var out []api.Half
	for i, a := range p {
		b := p[(i+1+len(p)/3)%len(p)]
		if a == b && b.X > 0 {
			b.X--
		} else if a == b {
			b.X++
		}
		h := half(b.Y-a.Y, a.X-b.X, 0)
		h.C = h.A*a.X + h.B*a.Y
		for _, by := range []int{0, 1, -1} {
			near := half(h.A, h.B, min(max(h.C+by, -api.MaxSpan), api.MaxSpan))
			out = append(out, near, opposite(near))
		}
	}
	return out
}

// none has points that are no place.
func none() []api.Point {
	return at(most+1, 0, 0, most+1, -most-1, 0, 0, -most-1, most+1, most+1, math.MaxInt, 0, 0, math.MaxInt, math.MinInt, 0, 0, math.MinInt, math.MinInt, math.MinInt, math.MaxInt, math.MinInt)
}

// noPolygons has lists of points that are no polygon.
func noPolygons() [][]api.Point {
	lists := [][]api.Point{
		nil, {}, at(3, 4, 3, 4), at(3, 4, 1, 9), at(most, most, -most, -most), at(4, 0, 0, 3, 0, 0), at(0, 0, 0, 3, 4, 0),
		at(0, 0, 1, 0, 2, 0), at(0, 0, 2, 0, 4, 0, 4, 4), at(0, 0, 4, 0, 4, 4, 2, 1), at(0, 0, 4, 0, 4, 4, 0, 0), at(-2, 0, 1, -2, 1, 2, -1, -2, 2, 0, -1, 2),
		parabola(65), parabola(700), parabola(5000), make([]api.Point, 65),
	}
	for _, x := range none() {
		lists = append(lists, []api.Point{x}, append(at(-most, -most), x), append(at(-most, -most, most, -most), x))
	}
	return lists
}

// noHalves has half-planes that are not well-formed.
func noHalves() []api.Half {
	const id, span = api.MaxID, api.MaxSpan
	out := []api.Half{half(0, 0, 0), half(0, 0, 1), half(0, 0, -1), half(0, 0, span+1)}
	for _, n := range []int{id + 1, -id - 1, math.MaxInt, math.MinInt} {
		out = append(out, half(n, 0, 0), half(0, n, 0), half(n, 1, 5), half(-1, n, 5), half(n, n, 0), half(n, -n, n))
	}
	for _, n := range []int{span + 1, -span - 1, math.MaxInt, math.MinInt} {
		out = append(out, half(1, 0, n), half(0, 1, n), half(id, -id, n), half(-id, id, n))
	}
	return out
}

func mustHull(t *testing.T, l []api.Point) []api.Point {
	t.Helper()
	p, e := hull.Hull(l)
	if e != api.OK {
		t.Fatalf("hull.Hull(%v): %v", l, e)
	}
	return p
}

// has says by the words of layer 3 whether a polygon has a place.
func has(p []api.Point, x api.Point) bool {
	for i, a := range p {
		if cross(a, p[(i+1)%len(p)], a, x) < 0 {
			return false
		}
	}
	a, b := p[0], p[len(p)-1]
	return len(p) > 2 || a.X <= x.X && x.X <= b.X && min(a.Y, b.Y) <= x.Y && x.Y <= max(a.Y, b.Y)
}

func hasAll(p, l []api.Point) bool {
	return !slices.ContainsFunc(l, func(x api.Point) bool { return !has(p, x) })
}

// excess is how far a place is beyond the edge of a half-plane: A*X + B*Y - C.
func excess(h api.Half, x api.Point) *big.Int {
	times := func(a, b int) *big.Int { return new(big.Int).Mul(big.NewInt(int64(a)), big.NewInt(int64(b))) }
	sum := new(big.Int).Add(times(h.A, x.X), times(h.B, x.Y))
	return sum.Sub(sum, big.NewInt(int64(h.C)))
}

// framed has the frame of the point that lies a part of the way from a to b.
func framed(a, b api.Point, part *big.Rat) []api.Point {
	ends := func(from, to int) (lo, hi int) {
		way := new(big.Rat).Mul(part, big.NewRat(int64(to-from), 1))
		lo = from + int(new(big.Int).Div(way.Num(), way.Denom()).Int64())
		if way.IsInt() {
			return lo, lo
		}
		return lo, lo + 1
	}
	west, east := ends(a.X, b.X)
	south, north := ends(a.Y, b.Y)
	return slices.Compact(at(west, south, west, north, east, north, east, south))
}

// edgeFrames has the frames of the points at which the edge of a half-plane crosses sides of a polygon.
func edgeFrames(p []api.Point, h api.Half) []api.Point {
	var l []api.Point
	for i, a := range p {
		b := p[(i+1)%len(p)]
		from, to := excess(h, a), excess(h, b)
		if from.Sign() != 0 && to.Sign() == -from.Sign() {
			l = append(l, framed(a, b, new(big.Rat).SetFrac(from, new(big.Int).Sub(from, to)))...)
		}
	}
	return l
}

// sideFrames has the frames of the points at which sides of two polygons cross: those that are some part, of more than nothing and less than all, of both sides.
func sideFrames(p, q []api.Point) []api.Point {
	between := func(n, whole int) bool {
		return n != 0 && n != whole && (n > 0) == (whole > 0) && max(n, -n) < max(whole, -whole)
	}
	var l []api.Point
	for i, a := range p {
		b := p[(i+1)%len(p)]
		for k, c := range q {
			d := q[(k+1)%len(q)]
			whole := cross(a, b, c, d)
			first, second := cross(a, c, c, d), cross(a, c, a, b)
			if whole != 0 && between(first, whole) && between(second, whole) {
				l = append(l, framed(a, b, big.NewRat(int64(first), int64(whole)))...)
			}
		}
	}
	return l
}

// cross is the product of the ways from a to b and from c to d.
func cross(a, b, c, d api.Point) int { return (b.X-a.X)*(d.Y-c.Y) - (b.Y-a.Y)*(d.X-c.X) }

// left has the places whose hull is what a half-plane leaves of a polygon.
func left(p []api.Point, h api.Half) []api.Point {
	kept := slices.DeleteFunc(slices.Clone(p), func(x api.Point) bool { return excess(h, x).Sign() > 0 })
	return append(kept, edgeFrames(p, h)...)
}

// shared has those of some places that a polygon has.
func shared(l, p []api.Point) []api.Point {
	return slices.DeleteFunc(slices.Clone(l), func(x api.Point) bool { return !has(p, x) })
}

// both has the places whose hull is what two polygons have in common.
func both(p, q []api.Point) []api.Point {
	return slices.Concat(shared(p, q), shared(q, p), sideFrames(p, q))
}

// outward has the hull of places, or, if it has too many corners, its eight-sided hull, which is made wider by one place after the other; and which of both it is.
func outward(t *testing.T, l []api.Point) (p []api.Point, eightSided bool) {
	t.Helper()
	if len(l) == 0 {
		return nil, false
	}
	p, e := hull.Hull(l)
	if e == api.OK {
		return p, false
	}
	p = nil
	for _, x := range l {
		q := mustHull(t, append(p, x))
		if p, e = hull.Eight(q); e != api.OK {
			t.Fatalf("hull.Eight(%v): %v", q, e)
		}
	}
	return p, true
}

// separate says whether some line that has a direction of a side of two polygons, or is at a right angle to one, or to an axis, lies between them, so that they have no point in common.
func separate(p, q []api.Point) bool {
	ways := at(1, 0, 0, 1)
	for _, l := range [][]api.Point{p, q} {
		for i, a := range l {
			b := l[(i+1)%len(l)]
			ways = append(ways, at(b.X-a.X, b.Y-a.Y, a.Y-b.Y, b.X-a.X)...)
		}
	}
	for _, w := range ways {
		along := func(a, b api.Point) int { return w.X*(a.X-b.X) + w.Y*(a.Y-b.Y) }
		if along(slices.MinFunc(p, along), slices.MaxFunc(q, along)) > 0 || along(slices.MinFunc(q, along), slices.MaxFunc(p, along)) > 0 {
			return true
		}
	}
	return false
}

// near has places, and those beside them.
func near(lists ...[]api.Point) []api.Point {
	var l []api.Point
	for _, x := range slices.Concat(lists...) {
		for _, by := range square(-1, 1) {
			l = append(l, api.Point{X: x.X + by.X, Y: x.Y + by.Y})
		}
	}
	return slices.DeleteFunc(l, func(x api.Point) bool { return max(x.X, -x.X, x.Y, -x.Y) > most })
}
