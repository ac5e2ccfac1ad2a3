package ray

import (
	"math"
	"slices"
	"testing"

	"landfall/api"
	"landfall/hull"
)

func mustBetween(t *testing.T, a, n int, v api.Point) bool {
	t.Helper()
	is, e := Between(a%64, n, v)
	if e != api.OK {
		t.Fatalf("Between(%d, %d, %v): %v", a%64, n, v, e)
	}
	return is
}

func mustFind(t *testing.T, v api.Point) (k int, on bool) {
	t.Helper()
	k, on, e := Of(v)
	if e != api.OK {
		t.Fatalf("Of(%v): %v", v, e)
	}
	return k, on
}

func mustSector(t *testing.T, a, n int, d api.Span) []api.Point {
	t.Helper()
	p, e := Sector(a%64, n, d)
	if e != api.OK {
		t.Fatalf("Sector(%d, %d, %v): %v", a%64, n, d, e)
	}
	return p
}

func mustHave(t *testing.T, p []api.Point, x api.Point) bool {
	t.Helper()
	is, e := hull.Has(p, x)
	if e != api.OK {
		t.Fatalf("hull.Has(%v, %v): %v", p, x, e)
	}
	return is
}

func TestP9_1_RayExamples(t *testing.T) {
	for _, x := range []struct {
		k    int
		want api.Point
	}{
		{0, api.Point{X: 1000}}, {1, api.Point{X: 995, Y: 98}}, {8, api.Point{X: 707, Y: 707}}, {15, api.Point{X: 98, Y: 995}},
		{16, api.Point{Y: 1000}}, {17, api.Point{X: -98, Y: 995}}, {24, api.Point{X: -707, Y: 707}}, {31, api.Point{X: -995, Y: 98}},
		{32, api.Point{X: -1000}}, {33, api.Point{X: -995, Y: -98}}, {47, api.Point{X: -98, Y: -995}}, {48, api.Point{Y: -1000}}, {49, api.Point{X: 98, Y: -995}}, {63, api.Point{X: 995, Y: -98}},
	} {
		if r, e := Ray(x.k); r != x.want || e != api.OK {
			t.Errorf("Ray(%d): %v, %v", x.k, r, e)
		}
	}
}

func TestP9_1_RaysByWords(t *testing.T) {
	for k := range 64 {
		if r, e := Ray(k); r != rayOf(k) || e != api.OK {
			t.Errorf("Ray(%d): %v, %v instead of %v", k, r, e, rayOf(k))
		}
	}
}

// Each ray is about 5.6 degrees from the next one, counterclockwise.
func TestP9_1_RaysFollowEachOther(t *testing.T) {
	for k := range 64 {
		r, _ := Ray(k)
		next, _ := Ray((k + 1) % 64)
		turn := math.Atan2(float64(cross(r, next)), float64(r.X*next.X+r.Y*next.Y)) * 180 / math.Pi
		if turn < 5.5 || turn > 5.75 {
			t.Errorf("from the ray %d to the next one: %f degrees", k, turn)
		}
	}
}

func TestP9_1_RayErrors(t *testing.T) {
	for _, k := range noRays() {
		if r, e := Ray(k); r != (api.Point{}) || e != api.ErrArg {
			t.Errorf("Ray(%d): %v, %v", k, r, e)
		}
	}
}

func TestP9_1_BetweenExamples(t *testing.T) {
	for _, x := range []struct {
		a, n int
		v    api.Point
		is   bool
	}{
		{8, 0, api.Point{X: 5, Y: 5}, true}, {7, 2, api.Point{X: 5, Y: 5}, true}, {6, 1, api.Point{X: 5, Y: 4}, true}, {7, 1, api.Point{X: 5, Y: 4}, false}, {5, 1, api.Point{X: 5, Y: 4}, false},
		// One ray has what lies on it, and not what lies on the other half of its line.
		{0, 0, api.Point{X: 1}, true}, {0, 0, api.Point{X: -1}, false}, {0, 0, api.Point{X: 1000000}, true}, {0, 0, api.Point{X: 1000000, Y: 1}, false}, {0, 0, api.Point{X: 1000000, Y: -1}, false},
		{48, 0, api.Point{Y: -3}, true}, {48, 0, api.Point{Y: 3}, false}, {1, 0, api.Point{X: 995, Y: 98}, true}, {1, 0, api.Point{X: -995, Y: -98}, false}, {1, 0, api.Point{X: 199000, Y: 19600}, true}, {1, 0, api.Point{X: 199000, Y: 19601}, false},
		// Both ends belong to it, and nothing opposite does.
		{0, 16, api.Point{Y: 3}, true}, {0, 16, api.Point{X: 3}, true}, {0, 16, api.Point{X: -1, Y: 1000000}, false}, {0, 16, api.Point{X: 1000000, Y: -1}, false}, {0, 16, api.Point{X: -1, Y: -1}, false}, {0, 16, api.Point{Y: -3}, false}, {0, 16, api.Point{X: -3}, false},
		{0, 31, api.Point{X: -995, Y: 98}, true}, {0, 31, api.Point{X: -995, Y: 97}, false}, {0, 31, api.Point{X: -1}, false}, {0, 31, api.Point{X: 995, Y: -98}, false}, {0, 31, api.Point{Y: 1}, true},
		// Numbers are counted on behind 63.
		{63, 1, api.Point{X: 1}, true}, {63, 1, api.Point{X: 995, Y: -98}, true}, {63, 1, api.Point{X: 1000, Y: 1}, false}, {60, 8, api.Point{X: 924, Y: 383}, true}, {60, 8, api.Point{X: 924, Y: 384}, false}, {63, 31, api.Point{X: -981, Y: 195}, true}, {63, 31, api.Point{X: -995, Y: 98}, false},
		{33, 31, api.Point{X: 1}, true}, {33, 31, api.Point{X: 1000, Y: 1}, false}, {33, 31, api.Point{Y: -1}, true}, {33, 31, api.Point{X: -1000000, Y: -1}, false},
	} {
		if is, e := Between(x.a, x.n, x.v); is != x.is || e != api.OK {
			t.Errorf("Between(%d, %d, %v): %t, %v", x.a, x.n, x.v, is, e)
		}
	}
}

func TestP9_1_BetweenByWords(t *testing.T) {
	for _, v := range vectors() {
		for a := range 64 {
			for n := range 32 {
				if is := mustBetween(t, a, n, v); is != liesBetween(a, n, v) {
					t.Fatalf("Between(%d, %d, %v): %t", a, n, v, is)
				}
			}
		}
	}
}

func TestP9_1_BetweenErrors(t *testing.T) {
	check := func(a, n int, v api.Point) {
		if is, e := Between(a, n, v); is || e != api.ErrArg {
			t.Errorf("Between(%d, %d, %v): %t, %v", a, n, v, is, e)
		}
	}
	for _, x := range noRanges() {
		check(x[0], x[1], api.Point{X: 1})
	}
	for _, v := range noVectors() {
		check(0, 0, v)
		check(0, 31, v)
		check(63, 31, v)
		check(-1, 32, v)
	}
}

func TestP9_1_OfExamples(t *testing.T) {
	for _, x := range []struct {
		v  api.Point
		k  int
		on bool
	}{
		{api.Point{X: 5, Y: 5}, 8, true}, {api.Point{X: 5, Y: 4}, 6, false}, {api.Point{X: 9}, 0, true}, {api.Point{X: 1000, Y: 1}, 0, false}, {api.Point{X: 1000000, Y: 1}, 0, false}, {api.Point{X: 1000000, Y: -1}, 63, false},
		{api.Point{X: 995, Y: 98}, 1, true}, {api.Point{X: 995, Y: 97}, 0, false}, {api.Point{X: 995, Y: 99}, 1, false}, {api.Point{X: 1, Y: 100}, 15, false}, {api.Point{Y: 2}, 16, true}, {api.Point{X: -1, Y: 100}, 16, false},
		{api.Point{X: -1990, Y: 196}, 31, true}, {api.Point{X: -1990, Y: 195}, 31, false}, {api.Point{X: -1}, 32, true}, {api.Point{X: -1000000, Y: -1}, 32, false}, {api.Point{Y: -1000000}, 48, true}, {api.Point{X: -1, Y: -1000000}, 47, false},
		{api.Point{X: 995, Y: -98}, 63, true}, {api.Point{X: 995, Y: -99}, 62, false}, {api.Point{X: 1000000, Y: 1000000}, 8, true}, {api.Point{X: -1000000, Y: 1000000}, 24, true}, {api.Point{X: 1000000, Y: 999999}, 7, false}, {api.Point{X: 999999, Y: 1000000}, 8, false},
	} {
		if k, on, e := Of(x.v); k != x.k || on != x.on || e != api.OK {
			t.Errorf("Of(%v): %d, %t, %v", x.v, k, on, e)
		}
	}
}

func TestP9_1_OfByWords(t *testing.T) {
	for _, v := range append(vectors(), nearVectors(40)...) {
		k, on := mustFind(t, v)
		if k < 0 || k > 63 || !liesBetween(k, 1, v) || liesOn(k+1, v) || on != liesOn(k, v) {
			t.Fatalf("Of(%v): %d, %t", v, k, on)
		}
	}
}

func TestP9_1_OfErrors(t *testing.T) {
	for _, v := range noVectors() {
		if k, on, e := Of(v); k != 0 || on || e != api.ErrArg {
			t.Errorf("Of(%v): %d, %t, %v", v, k, on, e)
		}
	}
}

func TestP9_1_SectorExamples(t *testing.T) {
	for _, x := range []struct {
		a, n int
		d    api.Span
		want []api.Point
	}{
		{0, 0, api.Span{Lo: 0, Hi: 998}, at(0, 0, 1000, 0)}, {0, 0, api.Span{}, at(0, 0)}, {5, 31, api.Span{}, at(0, 0)},
		{16, 0, api.Span{Lo: 1001, Hi: 1996}, at(0, 1000, 0, 2000)}, {32, 0, api.Span{Lo: 5, Hi: 5}, at(-6, 0, -4, 0)}, {48, 0, api.Span{Lo: 5, Hi: 5}, at(0, -6, 0, -4)},
		{0, 0, api.Span{Lo: 100000, Hi: 100000}, at(99900, 0, 100201, 0)}, {8, 0, api.Span{Lo: 0, Hi: 2}, at(0, 0, 2, 1, 2, 2, 1, 2)}, {40, 0, api.Span{Lo: 0, Hi: 2}, at(-2, -2, -1, -2, 0, 0, -2, -1)},
		{0, 1, api.Span{Lo: 0, Hi: 1}, at(0, 0, 2, 0, 1, 1, 0, 1)}, {0, 16, api.Span{Lo: 0, Hi: 998}, at(0, 0, 1000, 0, 995, 98, 981, 195, 957, 290, 924, 383, 882, 471, 831, 556, 773, 634, 707, 707, 634, 773, 556, 831, 471, 882, 383, 924, 290, 957, 195, 981, 98, 995, 0, 1000)},
		{1, 0, api.Span{Lo: 0, Hi: 998}, at(0, 0, 995, 98)}, {1, 0, api.Span{Lo: 1001, Hi: 1001}, at(995, 98, 998, 98, 998, 99, 997, 99)}, {8, 0, api.Span{Lo: 1001, Hi: 1996}, at(707, 707, 1414, 1414)}, {63, 1, api.Span{Lo: 1001, Hi: 1996}, at(995, -98, 1990, -196, 2000, 0, 1000, 0)},
	} {
		if p, e := Sector(x.a, x.n, x.d); !slices.Equal(p, x.want) || e != api.OK {
			t.Errorf("Sector(%d, %d, %v): %v, %v instead of %v", x.a, x.n, x.d, p, e, x.want)
		}
	}
}

func TestP9_1_SectorByWords(t *testing.T) {
	for _, d := range spans() {
		for a := range 64 {
			for n := range 32 {
				if p := mustSector(t, a, n, d); !slices.Equal(p, sectorOf(t, a, n, d)) {
					t.Fatalf("Sector(%d, %d, %v): %v instead of %v", a, n, d, p, sectorOf(t, a, n, d))
				}
			}
		}
	}
}

// sectorOf fails where there are more corners than a polygon can have.
func TestP9_1_WideSectorsByWords(t *testing.T) {
	for hi := 0; hi <= 100000; hi += 1 + hi/40 {
		for a := range 16 {
			for _, n := range []int{15, 16, 29, 30, 31} {
				d := api.Span{Lo: hi - hi/(a+1), Hi: hi}
				if p := mustSector(t, a, n, d); !slices.Equal(p, sectorOf(t, a, n, d)) {
					t.Fatalf("Sector(%d, %d, %v): %v instead of %v", a, n, d, p, sectorOf(t, a, n, d))
				}
			}
		}
	}
}

func TestP9_1_SectorErrors(t *testing.T) {
	check := func(a, n int, d api.Span) {
		if p, e := Sector(a, n, d); len(p) != 0 || e != api.ErrArg {
			t.Errorf("Sector(%d, %d, %v): %v, %v", a, n, d, p, e)
		}
	}
	for _, x := range noRanges() {
		check(x[0], x[1], api.Span{Lo: 1, Hi: 2})
	}
	for _, no := range noDistances() {
		check(0, 0, no)
		check(63, 31, no)
		check(-1, 32, no)
	}
}

// Each vector lies between exactly one ray and the next one, if those on the latter are left out.
func TestP9_2_ExactlyOne(t *testing.T) {
	for _, v := range append(vectors(), nearVectors(40)...) {
		var found []int
		for k := range 64 {
			if mustBetween(t, k, 1, v) && !mustBetween(t, k+1, 0, v) {
				found = append(found, k)
			}
		}
		if k, on := mustFind(t, v); !slices.Equal(found, []int{k}) || on != mustBetween(t, k, 0, v) {
			t.Fatalf("%v lies between %v and the next ones, but Of: %d, %t", v, found, k, on)
		}
	}
}

func TestP9_2_FoundOrAtTheEnd(t *testing.T) {
	for _, v := range append(vectors(), nearVectors(10)...) {
		found, on := mustFind(t, v)
		for a := range 64 {
			for n := range 32 {
				behind := (found - a + 64) % 64
				if want := behind < n || behind == n && on; mustBetween(t, a, n, v) != want {
					t.Fatalf("Between(%d, %d, %v) is not %t, but Of: %d, %t", a, n, v, want, found, on)
				}
			}
		}
	}
}

func TestP9_3_Turning(t *testing.T) {
	for _, v := range vectors() {
		left := turnedLeft(v)
		k, on := mustFind(t, v)
		if further, too := mustFind(t, left); further != (k+16)%64 || too != on {
			t.Fatalf("Of(%v): %d, %t, but Of(%v): %d, %t", v, k, on, left, further, too)
		}
		for a := range 64 {
			for _, n := range []int{0, 1, 2, 15, 16, 17, 30, 31} {
				if mustBetween(t, a, n, v) != mustBetween(t, a+16, n, left) {
					t.Fatalf("between %d and %d further, only one of %v, and of %v 16 further", a, n, v, left)
				}
			}
		}
	}
}

func TestP9_4_Joining(t *testing.T) {
	for _, v := range vectors() {
		var is [64][32]bool
		for a := range 64 {
			for n := range 32 {
				is[a][n] = mustBetween(t, a, n, v)
			}
		}
		for a := range 64 {
			for n := range 32 {
				for m := range 32 - n {
					if either := is[a][n] || is[(a+n)%64][m]; either != is[a][n+m] {
						t.Fatalf("%v between %d, %d and %d further: %t, but not %t between the first and the last", v, a, n, m, either, either)
					}
				}
			}
		}
	}
}

func TestP9_5_NearSectors(t *testing.T) {
	near := nearVectors(14)
	for _, d := range []api.Span{{}, {Lo: 0, Hi: 1}, {Lo: 1, Hi: 1}, {Lo: 1, Hi: 2}, {Lo: 2, Hi: 3}, {Lo: 0, Hi: 5}, {Lo: 5, Hi: 5}, {Lo: 4, Hi: 7}, {Lo: 10, Hi: 10}, {Lo: 0, Hi: 13}, {Lo: 8, Hi: 13}, {Lo: 13, Hi: 13}} {
		for a := range 64 {
			for n := range 32 {
				p := mustSector(t, a, n, d)
				for _, v := range near {
					if isAway(d, v) && liesBetween(a, n, v) && !mustHave(t, p, v) {
						t.Fatalf("Sector(%d, %d, %v) does not have %v", a, n, d, v)
					}
				}
			}
		}
	}
}

func TestP9_5_FarSectors(t *testing.T) {
	checked := 0
	for _, d := range spans() {
		ends := slices.Concat(atDistance(d.Hi, false), atDistance(d.Lo, true), onRays(d))
		ends = slices.DeleteFunc(ends, func(v api.Point) bool { return !isVectorByWords(v) || !isAway(d, v) })
		for a := range 64 {
			for _, n := range []int{0, 1, 5, 31} {
				p := mustSector(t, a, n, d)
				for _, v := range ends {
					if !liesBetween(a, n, v) {
						continue
					}
					checked++
					if !mustHave(t, p, v) {
						t.Fatalf("Sector(%d, %d, %v) does not have %v", a, n, d, v)
					}
				}
			}
		}
	}
	if checked < 500000 {
		t.Errorf("only %d vectors", checked)
	}
}

// atDistance has points as near to a distance from 0, 0 as there are, all around: not nearer than it if beyond is set, otherwise not farther.
func atDistance(distance int, beyond bool) []api.Point {
	var l []api.Point
	for k := range 161 {
		x := int(math.Round(float64(distance) * math.Sin(float64(k)/160*math.Pi/2)))
		y := int(math.Sqrt(float64(distance*distance - x*x)))
		for x*x+y*y > distance*distance {
			y--
		}
		if beyond && x*x+y*y < distance*distance {
			y++
		}
		l = append(l, at(x, y, -x, y, x, -y, -x, -y)...)
	}
	return l
}

// onRays has points on each ray, about as near to 0, 0, and as far, as a span says.
func onRays(d api.Span) []api.Point {
	var l []api.Point
	for k := range 64 {
		step := rayOf(k)
		for f := 1000; f > 1; f-- {
			if step.X%f == 0 && step.Y%f == 0 {
				step = api.Point{X: step.X / f, Y: step.Y / f}
			}
		}
		n := int(math.Sqrt(float64(d.Hi*d.Hi) / float64(squared(step))))
		for _, by := range []int{n, max(0, n-1), n + 1, d.Lo * n / max(1, d.Hi), d.Lo*n/max(1, d.Hi) + 1} {
			l = append(l, api.Point{X: by * step.X, Y: by * step.Y})
		}
	}
	return l
}

// By these a sector is wide enough: the line from one ray to the next one is more than 998 away from 0, 0, and no ray is longer than 1001.
func TestP9_5_RaysReachFarEnough(t *testing.T) {
	for k := range 64 {
		r, _ := Ray(k)
		next, _ := Ray((k + 1) % 64)
		side := api.Point{X: next.X - r.X, Y: next.Y - r.Y}
		if area := cross(r, next); area*area <= 998*998*squared(side) {
			t.Errorf("the line from the ray %d to the next one is not more than 998 away", k)
		}
		if squared(r) > 1001*1001 {
			t.Errorf("the ray %d is longer than 1001", k)
		}
	}
}

func TestP9_6_NotMuchMore(t *testing.T) {
	for _, d := range spans() {
		most := up(d.Hi*1000, 998)
		for a := range 64 {
			for n := range 32 {
				for _, c := range mustSector(t, a, n, d) {
					if max(c.X, -c.X, c.Y, -c.Y) > most {
						t.Fatalf("Sector(%d, %d, %v) has the corner %v, more than %d away", a, n, d, c, most)
					}
				}
			}
		}
	}
}

func TestP9_6_TurnedSectors(t *testing.T) {
	for _, d := range spans() {
		for a := range 64 {
			for n := range 32 {
				var left []api.Point
				for _, c := range mustSector(t, a, n, d) {
					left = append(left, turnedLeft(c))
				}
				want, e := hull.Hull(left)
				if p := mustSector(t, a+16, n, d); !slices.Equal(p, want) || e != api.OK {
					t.Fatalf("Sector(%d, %d, %v): %v instead of %v, the turned one, %v", (a+16)%64, n, d, p, want, e)
				}
			}
		}
	}
}

func TestP9_7_OneRay(t *testing.T) {
	for _, d := range spans() {
		for a := range 64 {
			for n := range 32 {
				p := mustSector(t, a, n, d)
				for _, c := range append(mustSector(t, a, 0, d), mustSector(t, a+n, 0, d)...) {
					if !mustHave(t, p, c) {
						t.Fatalf("Sector(%d, %d, %v) does not have %v, a corner of the sector of its first or its last ray", a, n, d, c)
					}
				}
			}
		}
	}
}

func TestP1_AllArgumentsEnd(t *testing.T) {
	numbers := append(slices.Concat(noRays(), noWidths()), 0, 31, 63)
	vectors := append(noVectors(), at(1, 0, -1000000, 1000000)...)
	distances := append(noDistances(), api.Span{}, api.Span{Lo: 3, Hi: 100000})
	for _, a := range numbers {
		if r, e := Ray(a); (e == api.OK) != (r != api.Point{}) || e != api.OK && e != api.ErrArg {
			t.Errorf("Ray(%d): %v, %v", a, r, e)
		}
		for _, n := range numbers {
			for _, v := range vectors {
				if is, e := Between(a, n, v); e != api.OK && (is || e != api.ErrArg) {
					t.Errorf("Between(%d, %d, %v): %t, %v", a, n, v, is, e)
				}
			}
			for _, d := range distances {
				if p, e := Sector(a, n, d); (e == api.OK) != hull.Valid(p) || e != api.OK && (len(p) != 0 || e != api.ErrArg) {
					t.Errorf("Sector(%d, %d, %v): %v, %v", a, n, d, p, e)
				}
			}
		}
	}
	for _, v := range vectors {
		if k, on, e := Of(v); e != api.OK && (k != 0 || on || e != api.ErrArg) {
			t.Errorf("Of(%v): %d, %t, %v", v, k, on, e)
		}
	}
}

// A result does not depend on earlier calls, and is not changed by later ones, nor are they by what happens to it.
func TestP1_ArgumentsAlone(t *testing.T) {
	d := api.Span{Lo: 700, Hi: 1300}
	first := mustSector(t, 60, 20, d)
	kept := slices.Clone(first)
	for a := range 64 {
		mustSector(t, a, 31, api.Span{Hi: 100000})
		mustBetween(t, a, 3, api.Point{X: 4, Y: a})
		mustFind(t, api.Point{X: a, Y: 1})
	}
	if !slices.Equal(first, kept) {
		t.Errorf("later calls changed a sector: %v", first)
	}
	for i := range first {
		first[i] = api.Point{X: 7, Y: 7}
	}
	if again := mustSector(t, 60, 20, d); !slices.Equal(again, kept) {
		t.Errorf("a changed result changed the next one: %v", again)
	}
	for k := range 64 {
		if r, _ := Ray(k); r != rayOf(k) {
			t.Errorf("Ray(%d) later: %v", k, r)
		}
	}
}
