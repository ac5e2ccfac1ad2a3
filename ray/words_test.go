package ray

import (
	"math"
	"math/rand"
	"testing"

	"landfall/api"
	"landfall/hull"
)

// What the tests ask for, and what the chapter says of that, computed without package ray.

// at returns places: pairs of X and Y.
func at(l ...int) []api.Point {
	var out []api.Point
	for i := 0; i+1 < len(l); i += 2 {
		out = append(out, api.Point{X: l[i], Y: l[i+1]})
	}
	return out
}

// listed has the rays from 0 to 15, as the chapter lists them.
func listed() [16]api.Point {
	return [...]api.Point{
		{X: 1000, Y: 0}, {X: 995, Y: 98}, {X: 981, Y: 195}, {X: 957, Y: 290}, {X: 924, Y: 383}, {X: 882, Y: 471}, {X: 831, Y: 556}, {X: 773, Y: 634},
		{X: 707, Y: 707}, {X: 634, Y: 773}, {X: 556, Y: 831}, {X: 471, Y: 882}, {X: 383, Y: 924}, {X: 290, Y: 957}, {X: 195, Y: 981}, {X: 98, Y: 995},
	}
}

// rayOf is the ray with a number, counted on behind 63.
func rayOf(k int) api.Point {
	r := listed()[k%16]
	switch k / 16 % 4 {
	case 1:
		return api.Point{X: -r.Y, Y: r.X}
	case 2:
		return api.Point{X: -r.X, Y: -r.Y}
	case 3:
		return api.Point{X: r.Y, Y: -r.X}
	}
	return r
}

func cross(a, b api.Point) int { return a.X*b.Y - a.Y*b.X }

// liesOn says by the words of the chapter whether a vector lies on a ray.
func liesOn(k int, v api.Point) bool {
	r := rayOf(k)
	return cross(r, v) == 0 && (r.X != 0 && sign(r.X) == sign(v.X) || r.Y != 0 && sign(r.Y) == sign(v.Y))
}

// liesBetween says by the words of the chapter whether a vector lies between the rays a and a + n.
func liesBetween(a, n int, v api.Point) bool {
	return liesOn(a, v) || n > 0 && cross(rayOf(a), v) >= 0 && cross(v, rayOf(a+n)) >= 0
}

func sign(n int) int {
	switch {
	case n < 0:
		return -1
	case n > 0:
		return 1
	}
	return 0
}

// down is a quotient, by a divisor above 0, rounded down.
func down(a, b int) int {
	q := a / b
	for q*b > a {
		q--
	}
	return q
}

// up is a quotient, by a divisor above 0, rounded up.
func up(a, b int) int { return -down(-a, b) }

// roundedPlaces has the rounded places of a ray, times n, divided by d.
func roundedPlaces(k, n, d int) []api.Point {
	var l []api.Point
	x, y := rayOf(k).X*n, rayOf(k).Y*n
	for _, left := range []int{down(x, d), up(x, d)} {
		for _, low := range []int{down(y, d), up(y, d)} {
			l = append(l, api.Point{X: left, Y: low})
		}
	}
	return l
}

// sectorOf is the sector by the words of the chapter. It fails if this has more than 64 corners.
func sectorOf(t *testing.T, a, n int, d api.Span) []api.Point {
	t.Helper()
	l := append(roundedPlaces(a, d.Lo, 1001), roundedPlaces(a+n, d.Lo, 1001)...)
	for k := a; k <= a+n; k++ {
		l = append(l, roundedPlaces(k, d.Hi, 998)...)
	}
	p, e := hull.Hull(l)
	if e != api.OK {
		t.Fatalf("hull of the places of the sector %d, %d, %v: %v", a, n, d, e)
	}
	return p
}

func turnedLeft(v api.Point) api.Point { return api.Point{X: -v.Y, Y: v.X} }

// squared is the square of the distance of a vector from 0, 0.
func squared(v api.Point) int { return v.X*v.X + v.Y*v.Y }

// isAway reports whether the distance of a vector from 0, 0 is in a span.
func isAway(d api.Span, v api.Point) bool {
	return d.Lo*d.Lo <= squared(v) && squared(v) <= d.Hi*d.Hi
}

// isVectorByWords says by the words of the chapter what is a vector.
func isVectorByWords(v api.Point) bool {
	return (v.X != 0 || v.Y != 0) && v.X >= -1000000 && v.X <= 1000000 && v.Y >= -1000000 && v.Y <= 1000000
}

// nearVectors has all vectors that are not farther from 0, 0 than reach in X and Y.
func nearVectors(reach int) []api.Point {
	var l []api.Point
	for x := -reach; x <= reach; x++ {
		for y := -reach; y <= reach; y++ {
			if x != 0 || y != 0 {
				l = append(l, api.Point{X: x, Y: y})
			}
		}
	}
	return l
}

// besideRays has, for each ray, the vectors whose cross product with it is as near to 0 as there are, on its left and on its right, near and far.
func besideRays() []api.Point {
	var l []api.Point
	for k, r := range listed() {
		left, right := rayOf(k+16), rayOf(k+48)
		for x := 1; x <= 1000; x++ {
			if v := (api.Point{X: x, Y: down(r.Y*x, r.X) + 1}); cross(r, v) < cross(r, left) {
				left = v
			}
			if v := (api.Point{X: x, Y: up(r.Y*x, r.X) - 1}); cross(r, v) > cross(r, right) {
				right = v
			}
		}
		for _, v := range []api.Point{left, right} {
			far := api.Point{X: v.X + 990*r.X, Y: v.Y + 990*r.Y}
			for range 4 {
				l = append(l, v, far)
				v, far = turnedLeft(v), turnedLeft(far)
			}
		}
	}
	return l
}

// vectors has vectors on all rays, beside them, and between them, near and far.
func vectors() []api.Point {
	l := append(nearVectors(3), besideRays()...)
	add := func(x, y int) {
		if v := (api.Point{X: x, Y: y}); isVectorByWords(v) {
			l = append(l, v)
		}
	}
	for k := range 64 {
		r, next := rayOf(k), rayOf(k+1)
		add(r.X+next.X, r.Y+next.Y)
		for _, by := range []int{1, 37, 1000} {
			add(by*r.X, by*r.Y)
			add(by*r.X+1, by*r.Y)
			add(by*r.X-1, by*r.Y)
			add(by*r.X, by*r.Y+1)
			add(by*r.X, by*r.Y-1)
		}
	}
	for _, x := range []int{-1000000, -999999, -1, 0, 1, 999999, 1000000} {
		for _, y := range []int{-1000000, -1, 0, 1, 1000000} {
			add(x, y)
			add(y, x)
		}
	}
	random := rand.New(rand.NewSource(1))
	for range 100 {
		add(random.Intn(2000001)-1000000, random.Intn(2000001)-1000000)
	}
	return l
}

// spans has distances: the ends of what is allowed, those at which places need no rounding, and others.
func spans() []api.Span {
	l := []api.Span{
		{}, {Lo: 0, Hi: 1}, {Lo: 1, Hi: 1}, {Lo: 0, Hi: 2}, {Lo: 1, Hi: 2}, {Lo: 2, Hi: 2}, {Lo: 5, Hi: 5}, {Lo: 3, Hi: 9}, {Lo: 24, Hi: 31}, {Lo: 0, Hi: 82}, {Lo: 81, Hi: 82},
		{Lo: 0, Hi: 998}, {Lo: 998, Hi: 998}, {Lo: 1001, Hi: 1001}, {Lo: 1001, Hi: 1996}, {Lo: 2002, Hi: 2994}, {Lo: 1000, Hi: 1000},
		{Lo: 0, Hi: 100000}, {Lo: 1, Hi: 100000}, {Lo: 50000, Hi: 100000}, {Lo: 99999, Hi: 100000}, {Lo: 100000, Hi: 100000}, {Lo: 0, Hi: 99999}, {Lo: 99099, Hi: 99800},
	}
	random := rand.New(rand.NewSource(2))
	for _, most := range []int{20, 300, 5000, 100000} {
		for range 4 {
			hi := random.Intn(most + 1)
			l = append(l, api.Span{Lo: random.Intn(hi + 1), Hi: hi})
		}
	}
	return l
}

// noRays has integers that are no numbers of rays.
func noRays() []int {
	return []int{-1, 64, 65, 128, -64, math.MaxInt, math.MinInt, math.MaxInt - 63, math.MinInt + 64}
}

// noWidths has integers that are no n.
func noWidths() []int {
	return []int{-1, 32, 33, 63, 64, -32, math.MaxInt, math.MinInt, math.MaxInt - 63, math.MinInt + 64}
}

// noRanges has pairs of an a and an n, at least one of which is none.
func noRanges() [][2]int {
	var out [][2]int
	for _, a := range noRays() {
		out = append(out, [2]int{a, 0}, [2]int{a, 31})
		for _, n := range noWidths() {
			out = append(out, [2]int{a, n})
		}
	}
	for _, n := range noWidths() {
		out = append(out, [2]int{0, n}, [2]int{63, n})
	}
	return out
}

// noVectors has points that are no vectors.
func noVectors() []api.Point {
	return at(0, 0, 1000001, 0, -1000001, 0, 0, 1000001, 0, -1000001, 1000001, 1000001, 1000000, -1000001, -1000001, 1000000, 1000001, 5, 5, -1000001,
		math.MaxInt, 0, math.MinInt, 0, 0, math.MaxInt, 0, math.MinInt, math.MinInt, math.MinInt, math.MaxInt, math.MinInt, 1<<32, 1<<32, 1<<62, 0)
}

// noDistances has spans that are no distances.
func noDistances() []api.Span {
	return []api.Span{
		{Lo: -1}, {Lo: -1, Hi: -1}, {Lo: 3, Hi: 2}, {Lo: 1, Hi: 0}, {Lo: 0, Hi: 100001}, {Lo: 100001, Hi: 100001}, {Lo: 100001, Hi: 100000}, {Lo: -5, Hi: 5}, {Lo: 0, Hi: -1},
		{Lo: math.MinInt, Hi: math.MaxInt}, {Lo: math.MaxInt, Hi: math.MinInt}, {Lo: 0, Hi: math.MaxInt}, {Lo: math.MinInt, Hi: 0}, {Lo: math.MaxInt, Hi: math.MaxInt}, {Lo: math.MinInt, Hi: math.MinInt}, {Lo: 0, Hi: 1 << 32},
	}
}
