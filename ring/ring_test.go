package ring

import (
	"math"
	"slices"
	"testing"

	"landfall/api"
	"landfall/region"
)

func mustRing(t *testing.T, at api.Point, d api.Span) [][]api.Point {
	t.Helper()
	r, e := Ring(at, d)
	if e != api.OK {
		t.Fatalf("Ring(%v, %v): %v", at, d, e)
	}
	return r
}

func mustNear(t *testing.T, r [][]api.Point, at api.Point, d api.Span) [][]api.Point {
	t.Helper()
	left, e := Near(r, at, d)
	if e != api.OK {
		t.Fatalf("Near(%v, %v, %v): %v", r, at, d, e)
	}
	return left
}

func mustWedge(t *testing.T, r [][]api.Point, at api.Point, a, n int) [][]api.Point {
	t.Helper()
	left, e := Wedge(r, at, a, n)
	if e != api.OK {
		t.Fatalf("Wedge(%v, %v, %d, %d): %v", r, at, a, n, e)
	}
	return left
}

func TestP10_1_RingExamples(t *testing.T) {
	for _, x := range []struct {
		at   api.Point
		d    api.Span
		want [][]api.Point
	}{
		{place(0, 0), api.Span{}, list(places(0, 0))}, {place(3, 4), api.Span{}, list(places(3, 4))}, {place(-most, most), api.Span{}, list(places(-most, most))},
		{place(0, 0), api.Span{Hi: 1}, list(places(0, 0, 2, 0, 1, 1, 0, 1), places(0, 0, 1, 0, 1, 1, 0, 2), places(-1, 0, 0, 0, 0, 2, -1, 1), places(-2, 0, 0, 0, 0, 1, -1, 1), places(-2, 0, -1, -1, 0, -1, 0, 0), places(-1, -1, 0, -2, 0, 0, -1, 0), places(0, -2, 1, -1, 1, 0, 0, 0), places(0, -1, 1, -1, 2, 0, 0, 0))},
		{place(50, -7), api.Span{Hi: 1}, list(places(50, -7, 52, -7, 51, -6, 50, -6), places(50, -7, 51, -7, 51, -6, 50, -5), places(49, -7, 50, -7, 50, -5, 49, -6), places(48, -7, 50, -7, 50, -6, 49, -6), places(48, -7, 49, -8, 50, -8, 50, -7), places(49, -8, 50, -9, 50, -7, 49, -7), places(50, -9, 51, -8, 51, -7, 50, -7), places(50, -8, 51, -8, 52, -7, 50, -7))},
	} {
		if r, e := Ring(x.at, x.d); !same(r, x.want) || e != api.OK {
			t.Errorf("Ring(%v, %v): %v, %v instead of %v", x.at, x.d, r, e, x.want)
		}
	}
	for _, x := range []struct {
		d  api.Span
		is bool
	}{{api.Span{Lo: 50, Hi: 50}, true}, {api.Span{Lo: 60, Hi: 70}, false}, {api.Span{Lo: 0, Hi: 47}, false}, {api.Span{Lo: 0, Hi: 50}, true}, {api.Span{Lo: 50, Hi: 100000}, true}, {api.Span{Lo: 54, Hi: 100000}, false}} {
		if has(t, mustRing(t, place(30, 40), x.d), place(0, 0)) != x.is {
			t.Errorf("the ring around 30, 40 for %v has 0, 0: not %t", x.d, x.is)
		}
	}
}

// Rings of large distances have all their sectors, in order: each one is the one 8 before it, turned to the left.
func TestP10_1_RingSectors(t *testing.T) {
	r := mustRing(t, place(0, 0), api.Span{Lo: 1001, Hi: 1996})
	if len(r) != 32 {
		t.Fatalf("%d polygons", len(r))
	}
	if want := places(981, 195, 1000, 0, 2000, 0, 1990, 196, 1962, 390); !slices.Equal(r[0], want) {
		t.Errorf("the first polygon: %v instead of %v", r[0], want)
	}
	for i, p := range r {
		var left []api.Point
		for _, c := range p {
			left = append(left, place(-c.Y, c.X))
		}
		if q := r[(i+8)%32]; !slices.Equal(q, mustHull(t, left)) {
			t.Errorf("polygon %d: %v, but polygon %d: %v", i, p, (i+8)%32, q)
		}
	}
}

func TestP10_1_RingByWords(t *testing.T) {
	for _, d := range spans() {
		for _, at := range middles(d) {
			want, no := ringOf(t, at, d)
			if r, e := Ring(at, d); !same(r, want) || e != no {
				t.Fatalf("Ring(%v, %v): %v, %v instead of %v, %v", at, d, r, e, want, no)
			}
		}
	}
}

// noRing has a place and distances of which there is no ring, and why.
type noRing struct {
	at api.Point
	d  api.Span
	e  api.Errno
}

func noRings() []noRing {
	var l []noRing
	for _, at := range none() {
		for _, d := range []api.Span{{}, {Hi: 1}, {Hi: 100000}, {Lo: 2, Hi: 1}} {
			l = append(l, noRing{at, d, api.ErrArg})
		}
	}
	for _, d := range noDistances() {
		for _, at := range places(0, 0, most, -most, most+1, 0) {
			l = append(l, noRing{at, d, api.ErrArg})
		}
	}
	for _, d := range []api.Span{{Hi: 1}, {Hi: 998}, {Lo: 998, Hi: 998}, {Hi: 999}, {Lo: 100000, Hi: 100000}} {
		end := most - reach(d)
		for _, at := range places(end+1, 0, -end-1, 0, 0, end+1, 0, -end-1, end+1, end+1, most, most, -most, -most, end, -end-1, -end-1, end) {
			l = append(l, noRing{at, d, api.ErrRange})
		}
	}
	return l
}

func TestP10_1_RingErrors(t *testing.T) {
	for _, x := range noRings() {
		if r, e := Ring(x.at, x.d); len(r) != 0 || e != x.e {
			t.Errorf("Ring(%v, %v): %v, %v instead of %v", x.at, x.d, r, e, x.e)
		}
	}
	for _, d := range []api.Span{{}, {Hi: 1}, {Hi: 998}, {Hi: 999}, {Lo: 100000, Hi: 100000}} {
		end := most - reach(d)
		for _, at := range places(end, end, -end, -end, end, -end, -end, end) {
			if _, e := Ring(at, d); e != api.OK {
				t.Errorf("Ring(%v, %v): %v", at, d, e)
			}
		}
	}
}

func TestP10_1_NearExamples(t *testing.T) {
	unit := list(places(0, 0, 2, 0, 2, 2, 0, 2))
	for _, x := range []struct {
		r    [][]api.Point
		at   api.Point
		d    api.Span
		want [][]api.Point
	}{
		{nil, place(0, 0), api.Span{Hi: 5}, nil}, {unit, place(1, 1), api.Span{}, list(places(1, 1))}, {unit, place(3, 1), api.Span{}, nil}, {unit, place(9, 9), api.Span{Hi: 7}, nil}, {unit, place(0, 0), api.Span{Lo: 10, Hi: 99}, nil},
		{single(places(0, 0, 30, 40, 50, 0, 300, 400, 0, -50)), place(0, 0), api.Span{Lo: 50, Hi: 50}, single(places(30, 40, 50, 0, 0, -50))}, {single(places(30, 40, 50, 0, 300, 400, 0, -50)), place(0, 0), api.Span{Lo: 0, Hi: 500}, single(places(30, 40, 50, 0, 300, 400, 0, -50))},
		{list(places(-10, 0, 10, 0)), place(0, 0), api.Span{Hi: 5}, list(places(0, 0, 6, 0), places(-6, 0, 0, 0))}, {list(places(0, -10, 0, 10)), place(0, 0), api.Span{Lo: 5, Hi: 5}, list(places(0, 4, 0, 6), places(0, -6, 0, -4))},
	} {
		if left, e := Near(x.r, x.at, x.d); !same(left, x.want) || e != api.OK {
			t.Errorf("Near(%v, %v, %v): %v, %v instead of %v", x.r, x.at, x.d, left, e, x.want)
		}
	}
}

func TestP10_1_NearByWords(t *testing.T) {
	for _, d := range spans() {
		for i, r := range allRegions(t) {
			for _, at := range middles(d)[i%5 : 3+i%5] {
				around, no := ringOf(t, at, d)
				if no != api.OK {
					t.Fatalf("ring around %v for %v: %v", at, d, no)
				}
				want, no := region.Meet(r, around)
				if left, e := Near(r, at, d); !same(left, want) || e != no {
					t.Fatalf("Near(%v, %v, %v): %v, %v instead of %v, %v", r, at, d, left, e, want, no)
				}
			}
		}
	}
}

func TestP10_1_NearErrors(t *testing.T) {
	valid := append(smallRegions(t)[:4], list(sea()))
	for _, x := range noRings() {
		for _, r := range valid {
			if left, e := Near(r, x.at, x.d); len(left) != 0 || e != x.e {
				t.Errorf("Near(%v, %v, %v): %v, %v instead of %v", r, x.at, x.d, left, e, x.e)
			}
		}
		for _, r := range noRegions()[:6] {
			if left, e := Near(r, x.at, x.d); len(left) != 0 || e != api.ErrArg {
				t.Errorf("Near(%v, %v, %v): %v, %v", r, x.at, x.d, left, e)
			}
		}
	}
	for _, r := range noRegions() {
		for _, at := range places(0, 0, 1, 1, most, most) {
			if left, e := Near(r, at, api.Span{Hi: 1}); len(left) != 0 || e != api.ErrArg {
				t.Errorf("Near(%v, %v): %v, %v", r, at, left, e)
			}
		}
	}
}

func TestP10_1_WedgeExamples(t *testing.T) {
	l := single(places(0, 0, 0, 90, 200, 200, 100, 100, 0, 1, 50, 45, 100, 0, 0, 100))
	square := list(places(0, 0, 10, 0, 10, 10, 0, 10))
	for _, x := range []struct {
		r    [][]api.Point
		at   api.Point
		a, n int
		want [][]api.Point
	}{
		{single(places(0, 0, 0, 90, 200, 200)), place(100, 100), 7, 2, single(places(0, 0))}, {nil, place(0, 0), 3, 9, nil},
		{l, place(100, 100), 8, 0, single(places(0, 0, 100, 100))}, {l, place(100, 100), 40, 0, single(places(200, 200, 100, 100))}, {l, place(100, 100), 24, 0, single(places(100, 100))}, {l, place(100, 100), 0, 0, single(places(100, 100, 0, 100))}, {l, place(100, 100), 16, 0, single(places(100, 100, 100, 0))},
		{l, place(100, 100), 0, 8, single(places(0, 0, 0, 90, 100, 100, 0, 1, 0, 100))}, {l, place(100, 100), 8, 8, single(places(0, 0, 100, 100, 50, 45, 100, 0))}, {l, place(100, 100), 60, 12, single(places(0, 0, 0, 90, 100, 100, 0, 1, 0, 100))}, {l, place(100, 100), 40, 31, single(places(0, 90, 200, 200, 100, 100, 0, 100))},
		{square, place(10, 5), 0, 8, list(places(0, 0, 5, 0, 10, 5, 0, 5))}, {square, place(10, 5), 0, 0, list(places(0, 5, 10, 5))}, {square, place(10, 5), 32, 0, list(places(10, 5))}, {square, place(5, 5), 8, 0, list(places(0, 0, 5, 5))}, {square, place(5, 5), 40, 0, list(places(5, 5, 10, 10))}, {square, place(-1, 5), 63, 2, nil}, {square, place(20, 5), 0, 0, list(places(0, 5, 10, 5))},
		{square, place(5, 20), 16, 0, list(places(5, 0, 5, 10))}, {square, place(5, 20), 8, 16, square}, {square, place(0, 0), 32, 16, square}, {square, place(10, 10), 0, 16, square}, {square, place(0, 10), 48, 16, list(places(0, 10))}, {square, place(0, 10), 16, 16, square}, {square, place(10, 0), 48, 16, square},
		{square, place(5, 5), 0, 16, list(places(0, 0, 5, 0, 5, 5, 0, 5))}, {square, place(5, 5), 16, 16, list(places(5, 0, 10, 0, 10, 5, 5, 5))}, {square, place(5, 5), 32, 16, list(places(5, 5, 10, 5, 10, 10, 5, 10))}, {square, place(5, 5), 48, 16, list(places(0, 5, 5, 5, 5, 10, 0, 10))},
	} {
		if left, e := Wedge(x.r, x.at, x.a, x.n); !same(left, x.want) || e != api.OK {
			t.Errorf("Wedge(%v, %v, %d, %d): %v, %v instead of %v", x.r, x.at, x.a, x.n, left, e, x.want)
		}
	}
}

func TestP10_1_WedgeByWords(t *testing.T) {
	for i, r := range allRegions(t) {
		for _, at := range places(0, 0, 3, -4, -11, 12, 1000, 250, -most, -most, most, 3) {
			for a := range 64 {
				for n := (a + i) % 3; n < 32; n += 1 + (a+i)%5 {
					want := wedgeOf(t, r, at, a, n)
					if left := mustWedge(t, r, at, a, n); !same(left, want) {
						t.Fatalf("Wedge(%v, %v, %d, %d): %v instead of %v", r, at, a, n, left, want)
					}
				}
			}
		}
	}
}

// The third half-plane ends at a right angle to the ray: one that ends only a thousandth of that beside it leaves other corners here.
func TestP10_1_WedgeOfOneRayByWords(t *testing.T) {
	for _, x := range []struct {
		p  []api.Point
		at api.Point
		a  int
	}{
		{places(-58, -36, 23, -22, 39, -7, -28, 33, -51, 37), place(11, -3), 59}, {places(-48, 53, -3, -42, 36, -42, 44, -6), place(-20, 11), 37}, {places(-943, -72, -294, -848, -166, -691, 194, -132, -566, -3), place(-689, -170), 6}, {places(226, 261, 659, -708, 885, -680), place(601, -290), 43},
		{places(-891, -811, 371, 815, -817, 257), place(-799, -48), 23}, {places(-778, 931, -510, 233, -251, -386, 592, 322), place(-25, 154), 11}, {places(-456, 636, -236, -479, 608, -429, 735, -176, 702, 418), place(-302, 438), 28}, {places(-879, -751, 803, -572, 975, 678, 18, 232), place(337, -204), 38},
	} {
		want := wedgeOf(t, list(x.p), x.at, x.a, 0)
		if left := mustWedge(t, list(x.p), x.at, x.a, 0); !same(left, want) {
			t.Errorf("Wedge(%v, %v, %d, 0): %v instead of %v", x.p, x.at, x.a, left, want)
		}
	}
	if left := mustWedge(t, list(places(-58, -36, 23, -22, 39, -7, -28, 33, -51, 37)), place(11, -3), 59, 0); !same(left, list(places(-53, 30, 10, -4, 11, -4, 12, -3, 12, -2, -51, 31, -53, 31))) {
		t.Errorf("along the ray 59 to 11, -3: %v", left)
	}
}

func TestP10_1_WedgeErrors(t *testing.T) {
	check := func(r [][]api.Point, at api.Point, a, n int) {
		t.Helper()
		if left, e := Wedge(r, at, a, n); len(left) != 0 || e != api.ErrArg {
			t.Errorf("Wedge(%v, %v, %d, %d): %v, %v", r, at, a, n, left, e)
		}
	}
	for _, r := range noRegions() {
		check(r, place(0, 0), 0, 0)
		check(r, place(1, 1), 63, 31)
		check(r, place(most, most), 5, 4)
	}
	for _, r := range append(smallRegions(t)[:4], list(sea())) {
		for _, at := range none() {
			check(r, at, 0, 0)
			check(r, at, 8, 16)
			check(r, at, 63, 31)
		}
		for _, x := range noRays() {
			check(r, place(0, 0), x[0], x[1])
			check(r, place(-most, most), x[0], x[1])
			check(r, place(most+1, 0), x[0], x[1])
		}
	}
}

func TestP10_2_NearRings(t *testing.T) {
	for _, d := range []api.Span{{}, {Lo: 0, Hi: 1}, {Lo: 1, Hi: 1}, {Lo: 1, Hi: 2}, {Lo: 2, Hi: 3}, {Lo: 0, Hi: 5}, {Lo: 5, Hi: 5}, {Lo: 4, Hi: 7}, {Lo: 10, Hi: 10}, {Lo: 8, Hi: 13}, {Lo: 0, Hi: 25}, {Lo: 25, Hi: 25}, {Lo: 17, Hi: 29}} {
		for _, at := range places(0, 0, 7, -9, most-40, 40-most) {
			r := mustRing(t, at, d)
			for _, by := range square(-30, 30) {
				if x := plus(at, by); isAway(d, at, x) && !has(t, r, x) {
					t.Fatalf("the ring around %v for %v does not have %v", at, d, x)
				}
			}
		}
	}
}

func TestP10_2_FarRings(t *testing.T) {
	checked := 0
	for _, d := range spans() {
		for _, at := range places(0, 0, -17, 123456, most-reach(d), reach(d)-most) {
			r := mustRing(t, at, d)
			for _, by := range ends(d) {
				checked++
				if x := plus(at, by); !has(t, r, x) {
					t.Fatalf("the ring around %v for %v does not have %v", at, d, x)
				}
			}
		}
	}
	if checked < 100000 {
		t.Errorf("only %d places", checked)
	}
}

// No corner is farther in X and in Y, so no place is.
func TestP10_3_NotFarther(t *testing.T) {
	for hi := 0; hi <= 100000; hi += 1 + hi/50 {
		for _, d := range []api.Span{{Lo: 0, Hi: hi}, {Lo: hi / 2, Hi: hi}, {Lo: hi, Hi: hi}} {
			at := place(hi, -3)
			for _, c := range slices.Concat(mustRing(t, at, d)...) {
				if by := minus(c, at); 1000*max(by.X, -by.X, by.Y, -by.Y) > 1003*hi+2000 {
					t.Fatalf("the ring around %v for %v has %v", at, d, c)
				}
			}
		}
	}
}

// tooNear says whether 100 times the distance of a place is less than 99 times Lo, less 300.
func tooNear(d api.Span, by api.Point) bool {
	limit := 99*d.Lo - 300
	return limit > 0 && 10000*squared(by, api.Point{}) < limit*limit
}

func TestP10_3_NotNearer(t *testing.T) {
	checked := 0
	for _, d := range spans() {
		at := place(5, 100000)
		r := mustRing(t, at, d)
		inner := slices.Concat(atLength(max(0, (99*d.Lo-301)/100), false), atLength(d.Lo/2, false), square(-4, 4))
		if d.Lo < 100 {
			inner = square(-100, 100)
		}
		for _, by := range inner {
			if !tooNear(d, by) {
				continue
			}
			checked++
			if has(t, r, plus(at, by)) {
				t.Fatalf("the ring around %v for %v has %v", at, d, plus(at, by))
			}
		}
	}
	if checked < 20000 {
		t.Errorf("only %d places", checked)
	}
}

// No point of a side is too near, and the middle is not within: so no point of a polygon is too near.
func TestP10_3_SidesAreNotNearer(t *testing.T) {
	for lo := 4; lo <= 100000; lo += 1 + lo/40 {
		for _, hi := range []int{lo, min(100000, lo+lo/3), 100000} {
			r := mustRing(t, place(0, 0), api.Span{Lo: lo, Hi: hi})
			if has(t, r, place(0, 0)) {
				t.Fatalf("the ring for %d to %d has its middle", lo, hi)
			}
			for _, p := range r {
				for i, a := range p {
					if away := distanceOfSide(a, p[(i+1)%len(p)]); 100*away < float64(99*lo-300) {
						t.Fatalf("the ring for %d to %d: a side of %v is %f away", lo, hi, p, away)
					}
				}
			}
		}
	}
}

// distanceOfSide is how far the segment from a to b is from 0, 0.
func distanceOfSide(a, b api.Point) float64 {
	side := minus(b, a)
	part := 0.0
	if length := float64(squared(a, b)); length > 0 {
		part = max(0, min(1, -float64(a.X*side.X+a.Y*side.Y)/length))
	}
	return math.Hypot(float64(a.X)+part*float64(side.X), float64(a.Y)+part*float64(side.Y))
}

func TestP10_4_NearBeacons(t *testing.T) {
	for _, r := range smallRegions(t) {
		for _, at := range places(0, 0, 5, -3, -12, 12, 14, 1, 40, -9) {
			for _, d := range []api.Span{{}, {Hi: 1}, {Lo: 1, Hi: 1}, {Lo: 2, Hi: 3}, {Lo: 0, Hi: 6}, {Lo: 5, Hi: 5}, {Lo: 7, Hi: 13}, {Lo: 13, Hi: 13}, {Lo: 0, Hi: 40}, {Lo: 30, Hi: 50}, {Lo: 60, Hi: 90}} {
				left := mustNear(t, r, at, d)
				for _, x := range square(-12, 12) {
					if has(t, r, x) && isAway(d, at, x) && !has(t, left, x) {
						t.Fatalf("Near(%v, %v, %v): %v, without %v", r, at, d, left, x)
					}
				}
			}
		}
	}
}

func TestP10_4_FarBeacons(t *testing.T) {
	checked := 0
	for _, d := range spans() {
		for _, at := range places(0, 0, 1500, -2500, reach(d)-most, most-reach(d)) {
			for _, r := range largeRegions(t) {
				left := mustNear(t, r, at, d)
				for _, by := range ends(d) {
					x := plus(at, by)
					if !has(t, r, x) {
						continue
					}
					checked++
					if !has(t, left, x) {
						t.Fatalf("Near(%v, %v, %v): %v, without %v", r, at, d, left, x)
					}
				}
			}
		}
	}
	if checked < 100000 {
		t.Errorf("only %d places", checked)
	}
}

// A region of single places, all of which are at distances, stays as it is.
func TestP10_4_SinglePlacesStay(t *testing.T) {
	for _, d := range spans() {
		at := place(-20000, 777)
		for _, part := range parts(ends(d)) {
			for i := range part {
				part[i] = plus(at, part[i])
			}
			r, _ := region.Tidy(single(part))
			if left := mustNear(t, r, at, d); !same(left, r) {
				t.Fatalf("Near(%v, %v, %v): %v", r, at, d, left)
			}
		}
	}
}

func TestP10_5_NearPlaces(t *testing.T) {
	for i, r := range smallRegions(t) {
		l := slices.DeleteFunc(square(-12, 12), func(x api.Point) bool { return !has(t, r, x) })
		for _, at := range places(0, 0, 5, -3, -12, 12, 14, 1) {
			for a := range 64 {
				for n := (a + i) % 5; n < 32; n += 3 + (a+i)%6 {
					left := mustWedge(t, r, at, a, n)
					for _, x := range l {
						if sees(t, x, at, a, n) && !has(t, left, x) {
							t.Fatalf("Wedge(%v, %v, %d, %d): %v, without %v", r, at, a, n, left, x)
						}
					}
				}
			}
		}
	}
}

func TestP10_5_FarPlaces(t *testing.T) {
	checked := 0
	for i, r := range largeRegions(t) {
		for _, at := range places(0, 0, 1500, -2500, most, 999) {
			l := slices.DeleteFunc(beside(at), func(x api.Point) bool { return !has(t, r, x) })
			for a := range 64 {
				for n := (a + i) % 5; n < 32; n += 1 + (a+i)%8 {
					left := mustWedge(t, r, at, a, n)
					for _, x := range l {
						if !sees(t, x, at, a, n) {
							continue
						}
						checked++
						if !has(t, left, x) {
							t.Fatalf("Wedge(%v, %v, %d, %d): %v, without %v", r, at, a, n, left, x)
						}
					}
				}
			}
		}
	}
	if checked < 100000 {
		t.Errorf("only %d places", checked)
	}
}

func TestP10_5_SinglePlaces(t *testing.T) {
	for _, at := range places(0, 0, 100, 100, -most, most, 345678, -most) {
		for _, part := range parts(beside(at)) {
			r, _ := region.Tidy(single(part))
			for a := range 64 {
				for n := range 32 {
					want := slices.DeleteFunc(slices.Clone(r), func(p []api.Point) bool { return !sees(t, p[0], at, a, n) })
					if left := mustWedge(t, r, at, a, n); !same(left, want) {
						t.Fatalf("Wedge(%v, %v, %d, %d): %v instead of %v", r, at, a, n, left, want)
					}
				}
			}
		}
	}
}

func TestP10_6_MovedRings(t *testing.T) {
	for _, d := range spans() {
		r := mustRing(t, place(0, 0), d)
		end := most - reach(d)
		for _, at := range places(1, 0, 0, -1, 12345, -54321, end, end, -end, end, end, -end, -end, -end) {
			moved := copied(r)
			for _, p := range moved {
				for i := range p {
					p[i] = plus(p[i], at)
				}
			}
			if other := mustRing(t, at, d); !same(other, moved) {
				t.Fatalf("the ring around %v for %v is %v instead of %v", at, d, other, moved)
			}
		}
	}
}

// A bearing that is less exact lies between rays that have those of the more exact one between them.
func TestP10_6_LessExactBearings(t *testing.T) {
	for i, part := range parts(beside(place(100, 100))) {
		r, _ := region.Tidy(single(part))
		var left [64][32][][]api.Point
		for a := range 64 {
			for n := range 32 {
				left[a][n] = mustWedge(t, r, place(100, 100), a, n)
			}
		}
		for a := range 64 {
			for n := range 32 {
				for before := range 32 - n {
					for behind := i % 3; behind < 32-n-before; behind += 3 {
						more := left[(a-before+64)%64][before+n+behind]
						if x := missing(left[a][n], more); x != nil {
							t.Fatalf("from %d to %d further %v stays, but not from %d less to %d more", a, n, x, before, behind)
						}
					}
				}
			}
		}
	}
}

// missing has those polygons of a that are none of b.
func missing(a, b [][]api.Point) [][]api.Point {
	var l [][]api.Point
	for _, p := range a {
		if !slices.ContainsFunc(b, func(q []api.Point) bool { return slices.Equal(p, q) }) {
			l = append(l, p)
		}
	}
	return l
}

func TestP1_AllArgumentsEnd(t *testing.T) {
	numbers := []int{0, 1, -1, 31, 32, 63, 64, most, -most, most + 1, api.MaxSpan, math.MaxInt, math.MinInt, math.MaxInt - 1, math.MinInt + 1}
	regions := append(noRegions()[:9], nil, list(sea()), list(waves()), largeRegions(t)[7])
	ended := func(r [][]api.Point, e api.Errno) {
		t.Helper()
		if !region.Valid(r) || e != api.OK && (len(r) > 0 || e != api.ErrArg && e != api.ErrRange) {
			t.Fatalf("%v, %v", r, e)
		}
	}
	for _, x := range numbers {
		for _, y := range numbers {
			for _, d := range append(noDistances(), api.Span{}, api.Span{Lo: 3, Hi: 100000}, api.Span{Lo: x, Hi: y}) {
				ended(Ring(place(x, y), d))
				ended(Ring(place(0, 0), d))
			}
			for _, r := range regions {
				ended(Near(r, place(x, y), api.Span{Lo: 3, Hi: 1000}))
				ended(Near(r, place(0, 0), api.Span{Lo: x, Hi: y}))
				ended(Wedge(r, place(x, y), 8, 16))
				ended(Wedge(r, place(x, y), 63, 0))
				ended(Wedge(r, place(5, 5), x, y))
			}
		}
	}
}

// results has results of all functions.
func results(t *testing.T, regions [][][]api.Point) [][][]api.Point {
	t.Helper()
	d := api.Span{Lo: 7, Hi: 1300}
	out := [][][]api.Point{mustRing(t, place(0, 0), d), mustRing(t, place(4, 5), api.Span{}), mustRing(t, place(4, 5), api.Span{Hi: 1})}
	for _, r := range regions {
		out = append(out, mustNear(t, r, place(2, 3), d), mustWedge(t, r, place(2, 3), 60, 20), mustWedge(t, r, place(0, 0), 8, 0), mustWedge(t, r, place(most, 0), 54, 20))
	}
	return out
}

// The same arguments lead to the same result, whatever was called before, and whatever happened to earlier results.
func TestP1_ArgumentsAlone(t *testing.T) {
	regions := allRegions(t)
	before := results(t, regions)
	var kept [][][]api.Point
	for _, r := range before {
		kept = append(kept, copied(r))
	}
	for i, r := range results(t, regions) {
		if !same(r, kept[i]) || !same(before[i], kept[i]) {
			t.Fatalf("result %d: %v, and before %v", i, r, kept[i])
		}
	}
	for _, r := range before {
		spoil(r)
	}
	for i, r := range results(t, regions) {
		if !same(r, kept[i]) {
			t.Fatalf("result %d: %v, and before others were changed %v", i, r, kept[i])
		}
	}
}

// Arguments stay as they are, also if a result is changed, and no two polygons of a result share memory.
func TestP1_ArgumentsStay(t *testing.T) {
	regions := allRegions(t)
	var kept [][][]api.Point
	for _, r := range regions {
		kept = append(kept, copied(r))
	}
	for _, r := range results(t, regions) {
		for i := range r {
			others := copied(r)
			spoil(r[i : i+1])
			others[i] = slices.Clone(r[i])
			if !same(r, others) {
				t.Fatalf("polygon %d of a result shares memory with another one", i)
			}
		}
	}
	for i, r := range regions {
		if !same(r, kept[i]) {
			t.Fatalf("an argument became %v instead of %v", r, kept[i])
		}
	}
}

// spoil overwrites polygons, also where there is room behind them.
func spoil(r [][]api.Point) {
	for _, p := range r {
		for i := range p[:cap(p)] {
			p[:cap(p)][i] = place(7, 7)
		}
	}
}
