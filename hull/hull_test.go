package hull

import (
	"math"
	"math/rand"
	"slices"
	"testing"

	"landfall/api"
)

const most = api.MaxCoord

// at returns places: pairs of X and Y.
func at(l ...int) []api.Point {
	var out []api.Point
	for i := 0; i+1 < len(l); i += 2 {
		out = append(out, api.Point{X: l[i], Y: l[i+1]})
	}
	return out
}

// grid has all places of a square.
func grid(lo, hi int) []api.Point {
	var l []api.Point
	for x := lo; x <= hi; x++ {
		for y := lo; y <= hi; y++ {
			l = append(l, api.Point{X: x, Y: y})
		}
	}
	return l
}

// subsets has all lists of some places of the square of 3 times 3.
func subsets() [][]api.Point {
	places := grid(-1, 1)
	var lists [][]api.Point
	for bits := 1; bits < 1<<len(places); bits++ {
		var l []api.Point
		for i, x := range places {
			if bits>>i&1 == 1 {
				l = append(l, x)
			}
		}
		lists = append(lists, l)
	}
	return lists
}

// scattered has lists of random places, up to reach from 0, 0; some of them are twice in a list.
func scattered(seed int64, lists, reach int) [][]api.Point {
	random := rand.New(rand.NewSource(seed))
	coord := func() int { return random.Intn(2*reach+1) - reach }
	var out [][]api.Point
	for range lists {
		var l []api.Point
		for range 1 + random.Intn(12) {
			l = append(l, api.Point{X: coord(), Y: coord()})
		}
		out = append(out, append(l, l[random.Intn(len(l))]))
	}
	return out
}

// small has lists of places between -4 and 4.
func small() [][]api.Point { return append(subsets(), scattered(1, 300, 4)...) }

// large has lists of places that are far from each other.
func large() [][]api.Point {
	lists := [][]api.Point{
		at(-most, -most, most, -most, most, most, -most, most), at(-most, -most, most, most), at(-most, most, most, -most), at(most, most), at(-most, -most), at(-most, 0, most, 1),
		at(-most, -most, most, -most, -most, most), at(most, most, most, -most, -most, most), at(most, -most, most-1, -most, most, 1-most), at(-most, -most, most, most, most, most-1), at(0, -most, 0, most),
		round(64), parabola(64),
	}
	return append(lists, scattered(2, 100, most)...)
}

// polygons has the hulls of lists.
func polygons(t *testing.T, lists [][]api.Point) [][]api.Point {
	t.Helper()
	var out [][]api.Point
	for _, l := range lists {
		out = append(out, mustHull(t, l))
	}
	return out
}

// parabola has n places that are all corners of their hull.
func parabola(n int) []api.Point {
	var l []api.Point
	for i := range n {
		l = append(l, api.Point{X: i, Y: i * i})
	}
	return l
}

// round has the first corners, counterclockwise from the least one on, of a polygon that has 64 and is as round as they allow.
func round(corners int) []api.Point {
	vectors := at(1, -8, 1, -5, 2, -7, 3, -8, 1, -2, 4, -7, 5, -7, 6, -7, 7, -7, 7, -6, 7, -5, 7, -4, 8, -4, 8, -3, 7, -2, 8, 0)
	var l []api.Point
	last := api.Point{X: -most}
	for range 4 {
		for i, v := range vectors {
			l = append(l, last)
			last = api.Point{X: last.X + 5000*v.X, Y: last.Y + 5000*v.Y}
			vectors[i] = api.Point{X: -v.Y, Y: v.X}
		}
	}
	return l[:corners]
}

func mustHull(t *testing.T, l []api.Point) []api.Point {
	t.Helper()
	p, e := Hull(l)
	if e != api.OK {
		t.Fatalf("Hull(%v): %v", l, e)
	}
	return p
}

func mustHave(t *testing.T, p []api.Point, x api.Point) bool {
	t.Helper()
	is, e := Has(p, x)
	if e != api.OK {
		t.Fatalf("Has(%v, %v): %v", p, x, e)
	}
	return is
}

func mustBox(t *testing.T, p []api.Point) (lo, hi api.Point) {
	t.Helper()
	lo, hi, e := Box(p)
	if e != api.OK {
		t.Fatalf("Box(%v): %v", p, e)
	}
	return lo, hi
}

func mustEight(t *testing.T, p []api.Point) []api.Point {
	t.Helper()
	q, e := Eight(p)
	if e != api.OK {
		t.Fatalf("Eight(%v): %v", p, e)
	}
	return q
}

func mustArea(t *testing.T, p []api.Point) int {
	t.Helper()
	n, e := Area(p)
	if e != api.OK {
		t.Fatalf("Area(%v): %v", p, e)
	}
	return n
}

// leftOf is the product by which the chapter says what lies on the left.
func leftOf(a, b, x api.Point) int { return (b.X-a.X)*(x.Y-a.Y) - (b.Y-a.Y)*(x.X-a.X) }

func before(a, b api.Point) bool { return a.X < b.X || a.X == b.X && a.Y < b.Y }

// isPolygon says of places what the chapter says of a polygon, word by word.
func isPolygon(p []api.Point) bool {
	for _, x := range p[1:] {
		if !before(p[0], x) {
			return false
		}
	}
	if len(p) <= 2 {
		return true
	}
	for i, a := range p {
		next := (i + 1) % len(p)
		for k, x := range p {
			if k != i && k != next && leftOf(a, p[next], x) <= 0 {
				return false
			}
		}
	}
	return true
}

// wrapped finds the corners of a hull one after the other: behind each one comes that which has no place on the right, and the farthest of these.
func wrapped(l []api.Point) []api.Point {
	first := l[0]
	for _, x := range l {
		if before(x, first) {
			first = x
		}
	}
	p := []api.Point{first}
	for {
		a := p[len(p)-1]
		next := a
		for _, x := range l {
			side := leftOf(a, next, x)
			if next == a || side < 0 || side == 0 && distance(a, x) > distance(a, next) {
				next = x
			}
		}
		if next == first {
			return p
		}
		p = append(p, next)
	}
}

func distance(a, b api.Point) int { return (b.X-a.X)*(b.X-a.X) + (b.Y-a.Y)*(b.Y-a.Y) }

// has says by the words of the chapter whether a polygon has a place.
func has(p []api.Point, x api.Point) bool {
	switch len(p) {
	case 1:
		return x == p[0]
	case 2:
		return leftOf(p[0], p[1], x) == 0 && distance(p[0], x)+distance(x, p[1]) <= distance(p[0], p[1])
	}
	for i, a := range p {
		if leftOf(p[(i+1)%len(p)], a, x) > 0 {
			return false
		}
	}
	return true
}

// noPlaces has points that no function takes.
func noPlaces() []api.Point {
	return at(most+1, 0, 0, most+1, -most-1, 0, 0, -most-1, most+1, most+1, math.MaxInt, 0, 0, math.MaxInt, math.MinInt, 0, 0, math.MinInt, math.MinInt, math.MinInt, math.MaxInt, math.MinInt, math.MinInt, math.MaxInt)
}

// noPolygons has lists of points that are no polygon.
func noPolygons() [][]api.Point {
	lists := [][]api.Point{
		nil, {},
		at(3, 4, 3, 4), at(3, 4, 1, 9), at(3, 4, 3, 1), at(most, most, -most, -most),
		// The first one is not the least, or the order is clockwise.
		at(4, 0, 0, 3, 0, 0), at(0, 3, 0, 0, 4, 0), at(0, 0, 0, 3, 4, 0), at(0, 0, 0, 4, 4, 4, 4, 0),
		// Three on a line, also across the first one; twice the same one; a dent.
		at(0, 0, 1, 0, 2, 0), at(0, 0, 2, 0, 1, 0), at(0, 0, 2, 0, 4, 0, 4, 4), at(0, 0, 4, 0, 4, 4, 2, 2), at(0, 0, 4, 4, 2, 4, 0, 4), at(0, 0, 4, 0, 0, 4, 0, 2),
		at(0, 0, 4, 0, 4, 0, 4, 4), at(0, 0, 0, 0, 4, 0, 4, 4), at(0, 0, 4, 0, 4, 4, 0, 0), at(0, 0, 0, 0, 0, 0), at(0, 0, 4, 0, 0, 0, 4, 0), at(0, 0, 4, 0, 4, 4, 0, 4, 1, 2),
		// All turns are left, but they go around twice.
		at(-2, 0, 1, -2, 1, 2, -1, -2, 2, 0, -1, 2), at(0, 2, 2, 0, 4, 4, 1, 1, 3, 4), at(-3, 0, 3, -1, 0, 3, -2, -2, 2, -2),
		// Too many corners.
		parabola(65), parabola(5000), make([]api.Point, 65),
	}
	for _, x := range noPlaces() {
		lists = append(lists, []api.Point{x}, append(at(-most, -most), x), []api.Point{x, x}, append(at(-most, -most, most, -most), x), append([]api.Point{x}, at(0, 0, 4, 0, 0, 4)...))
	}
	return append(lists, at(math.MinInt, math.MinInt, math.MaxInt, math.MinInt, 0, math.MaxInt))
}

func TestP3_1_ValidExamples(t *testing.T) {
	for _, p := range [][]api.Point{
		at(0, 0), at(most, -most), at(-most, most), at(1, 9, 3, 4), at(3, 1, 3, 4), at(-most, -most, most, most),
		at(0, 0, 4, 0, 0, 3), at(0, 0, 4, 0, 4, 4, 0, 4), at(-2, 0, 0, -2, 2, 0, 0, 2), at(-most, -most, most, -most, most, most, -most, most),
		at(0, 0, most, most-1, most, most), at(0, 0, 1, -1, 1, 1, 0, 1), parabola(64), round(64), round(63), round(61), parabola(3),
	} {
		if !Valid(p) {
			t.Errorf("%v is no polygon", p)
		}
	}
	for _, p := range noPolygons() {
		if Valid(p) {
			t.Errorf("%v is a polygon", p)
		}
	}
}

func TestP3_1_ValidIsExact(t *testing.T) {
	places := grid(-1, 1)
	var lists func(l []api.Point)
	lists = func(l []api.Point) {
		if len(l) > 0 && Valid(l) != isPolygon(l) {
			t.Fatalf("%v is a polygon: %v", l, Valid(l))
		}
		if len(l) == 6 {
			return
		}
		for _, x := range places {
			lists(append(l, x))
		}
	}
	lists(make([]api.Point, 0, 6))
}

func TestP3_1_ValidOrders(t *testing.T) {
	random := rand.New(rand.NewSource(3))
	for _, p := range polygons(t, append(small(), large()...)) {
		q := slices.Clone(p)
		for range 5 {
			if Valid(q) != isPolygon(q) {
				t.Fatalf("%v is a polygon: %v", q, Valid(q))
			}
			random.Shuffle(len(q), func(i, k int) { q[i], q[k] = q[k], q[i] })
		}
		for from := range p {
			if q := slices.Concat(p[from:], p[:from]); Valid(q) != (from == 0) {
				t.Fatalf("%v is a polygon: %v", q, Valid(q))
			}
		}
		if slices.Reverse(q[1:]); Valid(q) != isPolygon(q) {
			t.Fatalf("%v is a polygon: %v", q, Valid(q))
		}
	}
}

func TestP3_1_ValidStars(t *testing.T) {
	for _, p := range [][]api.Point{parabola(64), parabola(63), parabola(7), round(64), round(63), round(40), round(5)} {
		for step := 2; step < len(p); step++ {
			// Each step-th corner, round and round: all of them are corners, and those of a star if all are met.
			star := make([]api.Point, len(p))
			for i := range star {
				star[i] = p[i*step%len(p)]
			}
			if Valid(star) {
				t.Fatalf("each corner but %d of %d is next: a polygon", step, len(p))
			}
		}
	}
}

func TestP3_1_HullExamples(t *testing.T) {
	for _, x := range []struct{ l, want []api.Point }{
		{at(0, 0, 4, 0, 2, 1, 4, 4, 2, 0, 0, 4), at(0, 0, 4, 0, 4, 4, 0, 4)},
		{at(3, 4), at(3, 4)}, {at(3, 4, 3, 4, 3, 4), at(3, 4)}, {at(3, 4, 1, 9), at(1, 9, 3, 4)}, {at(3, 4, 3, 1), at(3, 1, 3, 4)},
		{at(2, 2, 0, 0, 1, 1, 2, 2, -1, -1), at(-1, -1, 2, 2)}, {at(1, 5, 1, -5, 1, 0), at(1, -5, 1, 5)}, {at(5, 1, -5, 1, 0, 1), at(-5, 1, 5, 1)}, {at(-2, 2, 2, -2, 0, 0), at(-2, 2, 2, -2)},
		{at(0, 0, 0, 3, 4, 0), at(0, 0, 4, 0, 0, 3)}, {at(0, 4, 0, 2, 0, 0, 1, 3), at(0, 0, 1, 3, 0, 4)}, {at(4, 0, 4, 2, 4, 4, 0, 1), at(0, 1, 4, 0, 4, 4)},
		{at(0, 0, 0, 0, 1, 0, 1, 0, 0, 1), at(0, 0, 1, 0, 0, 1)},
		{at(most, most, -most, -most, most, -most, 0, 0, -most, most), at(-most, -most, most, -most, most, most, -most, most)},
		{at(-most, -most, most, most, 0, 0, most, most-1), at(-most, -most, most, most-1, most, most)},
		{make([]api.Point, 4000), at(0, 0)},
	} {
		if p, e := Hull(x.l); !slices.Equal(p, x.want) || e != api.OK {
			t.Errorf("Hull(%v): %v, %v", x.l, p, e)
		}
	}
}

func TestP3_1_HullErrors(t *testing.T) {
	none := noPlaces()
	for _, x := range []struct {
		name string
		l    []api.Point
		e    api.Errno
	}{
		{"nothing", nil, api.ErrArg}, {"an empty list", at(), api.ErrArg}, {"no place", at(most+1, 0), api.ErrArg}, {"a place and none", at(0, 0, 0, -most-1), api.ErrArg},
		{"4000 points, the last one of which is no place", append(make([]api.Point, 3999), none[0]), api.ErrArg},
		{"4001 places", make([]api.Point, 4001), api.ErrLimit},
		{"4001 points, one of which is no place", append(make([]api.Point, 4000), none[0]), api.ErrLimit},
		{"4001 points, the first one of which is no place", append(at(0, math.MinInt), make([]api.Point, 4000)...), api.ErrLimit},
		{"4001 places, 65 of which are corners", append(parabola(65), make([]api.Point, 3936)...), api.ErrLimit},
		{"65 corners", parabola(65), api.ErrLimit}, {"700 corners", parabola(700), api.ErrLimit},
		{"4000 places, 65 of which are corners", append(make([]api.Point, 3935), parabola(65)...), api.ErrLimit},
		{"65 corners and what is no place", append(parabola(65), none[0]), api.ErrArg},
	} {
		if p, e := Hull(x.l); len(p) != 0 || e != x.e {
			t.Errorf("%s: %v, %v instead of %v", x.name, p, e, x.e)
		}
	}
	for _, x := range none {
		for _, l := range [][]api.Point{{x}, {x, x}, append(at(0, 0), x), append([]api.Point{x}, at(0, 0, 1, 0, 0, 1)...), none} {
			if p, e := Hull(l); len(p) != 0 || e != api.ErrArg {
				t.Errorf("Hull(%v): %v, %v", l, p, e)
			}
		}
	}
}

func TestP3_1_HullOfManyPlaces(t *testing.T) {
	for _, p := range [][]api.Point{parabola(64), round(64)} {
		l := slices.Clone(p)
		for len(l) < 4000 {
			// Corners again, and what lies in the middle between two of them.
			a, b := p[len(l)%64], p[len(l)/64]
			l = append(l, api.Point{X: (a.X + b.X) / 2, Y: (a.Y + b.Y) / 2})
			if len(l)%3 == 0 {
				l[len(l)-1] = a
			}
		}
		slices.Reverse(l)
		if q, e := Hull(wholeOf(p, l)); !slices.Equal(q, p) || e != api.OK {
			t.Errorf("Hull of %d places: %v, %v", len(l), q, e)
		}
	}
}

// wholeOf leaves out what rounding has moved out of a polygon.
func wholeOf(p, l []api.Point) []api.Point {
	return slices.DeleteFunc(l, func(x api.Point) bool { return !has(p, x) })
}

func TestP3_1_HasExamples(t *testing.T) {
	for _, x := range []struct {
		p  []api.Point
		x  api.Point
		is bool
	}{
		{at(3, 4), api.Point{X: 3, Y: 4}, true}, {at(3, 4), api.Point{X: 3, Y: 5}, false}, {at(3, 4), api.Point{X: 2, Y: 4}, false}, {at(3, 4), api.Point{}, false},
		{at(0, 0, 6, 3), api.Point{X: 2, Y: 1}, true}, {at(0, 0, 6, 3), api.Point{}, true}, {at(0, 0, 6, 3), api.Point{X: 6, Y: 3}, true}, {at(0, 0, 6, 3), api.Point{X: 8, Y: 4}, false}, {at(0, 0, 6, 3), api.Point{X: -2, Y: -1}, false}, {at(0, 0, 6, 3), api.Point{X: 1, Y: 1}, false}, {at(0, 0, 6, 3), api.Point{X: 1, Y: 0}, false},
		{at(2, 0, 2, 5), api.Point{X: 2, Y: 3}, true}, {at(2, 0, 2, 5), api.Point{X: 2, Y: 6}, false}, {at(2, 0, 2, 5), api.Point{X: 2, Y: -1}, false}, {at(2, 0, 2, 5), api.Point{X: 3, Y: 3}, false},
		{at(0, 0, 4, 0, 0, 3), api.Point{X: 2, Y: 1}, true}, {at(0, 0, 4, 0, 0, 3), api.Point{X: 0, Y: 2}, true}, {at(0, 0, 4, 0, 0, 3), api.Point{X: 2, Y: 2}, false}, {at(0, 0, 4, 0, 0, 3), api.Point{X: 5, Y: 0}, false}, {at(0, 0, 4, 0, 0, 3), api.Point{X: -1, Y: 0}, false},
		{at(-most, -most, most, most), api.Point{X: most - 1, Y: most}, false}, {at(-most, -most, most, most), api.Point{X: most - 1, Y: most - 1}, true},
		{at(-most, -most, most, -most, -most, most), api.Point{}, true}, {at(-most, -most, most, -most, -most, most), api.Point{X: 1}, false}, {at(-most, -most, most, -most, -most, most), api.Point{X: most, Y: most}, false},
	} {
		if is, e := Has(x.p, x.x); is != x.is || e != api.OK {
			t.Errorf("Has(%v, %v): %v, %v", x.p, x.x, is, e)
		}
	}
}

func TestP3_1_HasIsExact(t *testing.T) {
	places := grid(-5, 5)
	for _, p := range polygons(t, small()) {
		for _, x := range places {
			if is := mustHave(t, p, x); is != has(p, x) {
				t.Fatalf("Has(%v, %v): %v", p, x, is)
			}
		}
	}
	for _, p := range polygons(t, large()) {
		for _, x := range near(p) {
			if is := mustHave(t, p, x); is != has(p, x) {
				t.Fatalf("Has(%v, %v): %v", p, x, is)
			}
		}
	}
}

// near has the corners of a polygon, the middle of each side, what is beside both, and corners of what is allowed.
func near(p []api.Point) []api.Point {
	l := at(0, 0, most, most, -most, most, most, -most, -most, -most)
	for i, a := range p {
		b := p[(i+1)%len(p)]
		for _, by := range grid(-1, 1) {
			l = append(l, api.Point{X: a.X + by.X, Y: a.Y + by.Y}, api.Point{X: (a.X+b.X)/2 + by.X, Y: (a.Y+b.Y)/2 + by.Y})
		}
	}
	return slices.DeleteFunc(l, func(x api.Point) bool { return max(x.X, -x.X, x.Y, -x.Y) > most })
}

func TestP3_1_BoxExamples(t *testing.T) {
	for _, x := range []struct {
		p      []api.Point
		lo, hi api.Point
	}{
		{at(3, -4), api.Point{X: 3, Y: -4}, api.Point{X: 3, Y: -4}}, {at(0, 5, 2, -1), api.Point{X: 0, Y: -1}, api.Point{X: 2, Y: 5}}, {at(2, 0, 2, 5), api.Point{X: 2, Y: 0}, api.Point{X: 2, Y: 5}},
		{at(-3, -2, 1, -7, 4, 0, 2, 6), api.Point{X: -3, Y: -7}, api.Point{X: 4, Y: 6}}, {at(-9, -2, -7, -3, -5, -1), api.Point{X: -9, Y: -3}, api.Point{X: -5, Y: -1}}, {at(5, 2, 7, 1, 9, 3), api.Point{X: 5, Y: 1}, api.Point{X: 9, Y: 3}},
		{at(-most, -most, most, most), api.Point{X: -most, Y: -most}, api.Point{X: most, Y: most}},
	} {
		if lo, hi, e := Box(x.p); lo != x.lo || hi != x.hi || e != api.OK {
			t.Errorf("Box(%v): %v, %v, %v", x.p, lo, hi, e)
		}
	}
}

func TestP3_1_EightExamples(t *testing.T) {
	for _, x := range []struct{ p, want []api.Point }{
		{at(3, 4), at(3, 4)}, {at(0, 0, 5, 1), at(0, 0, 4, 0, 5, 1, 1, 1)}, {at(0, 0, 1, 5), at(0, 0, 1, 1, 1, 5, 0, 4)}, {at(0, 5, 1, 0), at(0, 1, 1, 0, 1, 4, 0, 5)},
		{at(0, 0, 3, 3), at(0, 0, 3, 3)}, {at(0, 3, 3, 0), at(0, 3, 3, 0)}, {at(0, 0, 3, 0), at(0, 0, 3, 0)}, {at(0, 0, 0, 3), at(0, 0, 0, 3)},
		{at(0, 0, 10, 0, 3, 6), at(0, 0, 10, 0, 4, 6, 3, 6, 0, 3)}, {at(-3, -1, -1, -3, 1, -3, 3, -1, 3, 1, 1, 3, -1, 3, -3, 1), at(-3, -1, -1, -3, 1, -3, 3, -1, 3, 1, 1, 3, -1, 3, -3, 1)},
		{at(0, 0, 4, 0, 4, 4, 0, 4), at(0, 0, 4, 0, 4, 4, 0, 4)},
		{at(-most, -most, most, 0), at(-most, -most, 0, -most, most, 0, 0, 0)}, {at(-most, -most, most, most), at(-most, -most, most, most)},
		{at(-most, -most, most, -most, most, most, -most, most), at(-most, -most, most, -most, most, most, -most, most)},
		{at(-most, 1, 0, -most, most, 0), at(-most, 0, 0, -most, most, 0, most-1, 1, -most, 1)},
	} {
		if q, e := Eight(x.p); !slices.Equal(q, x.want) || e != api.OK {
			t.Errorf("Eight(%v): %v, %v instead of %v", x.p, q, e, x.want)
		}
	}
}

// kept says whether a place is within the bounds of a polygon: its X, Y, X + Y and X - Y.
func kept(p []api.Point, x api.Point) bool {
	for _, by := range at(1, 0, 0, 1, 1, 1, 1, -1) {
		value := func(c api.Point) int { return by.X*c.X + by.Y*c.Y }
		below, above := true, true
		for _, c := range p {
			below, above = below && value(x) < value(c), above && value(x) > value(c)
		}
		if below || above {
			return false
		}
	}
	return true
}

// within has the places where two lines that bound a polygon in one of eight directions cross, if all bounds are kept there.
func within(p []api.Point) []api.Point {
	var xs, ys []int
	for _, a := range p {
		xs, ys = append(xs, a.X), append(ys, a.Y)
	}
	var l []api.Point
	for _, c := range p {
		for _, x := range xs {
			l = append(l, api.Point{X: x, Y: c.X + c.Y - x}, api.Point{X: x, Y: x - c.X + c.Y})
		}
		for _, y := range ys {
			l = append(l, api.Point{X: c.X + c.Y - y, Y: y}, api.Point{X: c.X - c.Y + y, Y: y})
		}
	}
	return slices.DeleteFunc(append(l, p...), func(x api.Point) bool { return !kept(p, x) })
}

func TestP3_1_EightIsExact(t *testing.T) {
	places := grid(-5, 5)
	for _, p := range polygons(t, small()) {
		var l []api.Point
		for _, x := range places {
			if kept(p, x) {
				l = append(l, x)
			}
		}
		if q := mustEight(t, p); !slices.Equal(q, wrapped(l)) {
			t.Fatalf("Eight(%v): %v instead of %v", p, q, wrapped(l))
		}
	}
	for _, p := range polygons(t, large()) {
		if q := mustEight(t, p); !slices.Equal(q, wrapped(within(p))) {
			t.Fatalf("Eight(%v): %v instead of %v", p, q, wrapped(within(p)))
		}
	}
}

func TestP3_1_AreaExamples(t *testing.T) {
	for _, x := range []struct {
		p    []api.Point
		area int
	}{
		{at(3, 4), 0}, {at(most, -most), 0}, {at(0, 0, 6, 3), 0}, {at(-most, -most, most, most), 0}, {at(0, 0, 4, 0, 4, 4, 0, 4), 32}, {at(0, 0, 4, 0, 0, 3), 12}, {at(0, 0, 1, 0, 0, 1), 1}, {at(-2, 0, 0, -2, 2, 0, 0, 2), 16},
		{at(-most, -most, most, -most, most, most, -most, most), 2000000000000}, {at(-most, -most, most, -most, -most, most), 1000000000000}, {at(0, 0, most, most-1, most, most), most},
		{parabola(3), 2}, {parabola(64), 41664 * 2},
	} {
		if n, e := Area(x.p); n != x.area || e != api.OK {
			t.Errorf("Area(%v): %d, %v", x.p, n, e)
		}
	}
}

func TestP3_1_NoPolygon(t *testing.T) {
	for _, p := range noPolygons() {
		for _, x := range append(noPlaces(), api.Point{}) {
			if is, e := Has(p, x); is || e != api.ErrArg {
				t.Errorf("Has(%v, %v): %v, %v", p, x, is, e)
			}
		}
		if lo, hi, e := Box(p); lo != (api.Point{}) || hi != (api.Point{}) || e != api.ErrArg {
			t.Errorf("Box(%v): %v, %v, %v", p, lo, hi, e)
		}
		if q, e := Eight(p); len(q) != 0 || e != api.ErrArg {
			t.Errorf("Eight(%v): %v, %v", p, q, e)
		}
		if n, e := Area(p); n != 0 || e != api.ErrArg {
			t.Errorf("Area(%v): %d, %v", p, n, e)
		}
	}
}

func TestP3_1_HasNoPlace(t *testing.T) {
	for _, p := range polygons(t, large()) {
		for _, x := range noPlaces() {
			if is, e := Has(p, x); is || e != api.ErrArg {
				t.Errorf("Has(%v, %v): %v, %v", p, x, is, e)
			}
		}
	}
}

func TestP3_1_ArgumentsStay(t *testing.T) {
	for _, l := range append(append(small(), large()...), parabola(65)) {
		kept := slices.Clone(l)
		p, e := Hull(l)
		if !slices.Equal(l, kept) {
			t.Fatalf("Hull has changed %v into %v", kept, l)
		}
		if e != api.OK {
			continue
		}
		polygon := slices.Clone(p)
		q, _ := Eight(p)
		Valid(p)
		Has(p, api.Point{})
		Box(p)
		Area(p)
		clear(q)
		if !slices.Equal(p, polygon) {
			t.Fatalf("%v has become %v", polygon, p)
		}
		if clear(p); !slices.Equal(l, kept) {
			t.Fatalf("the hull of %v shares its memory", kept)
		}
	}
}

func TestP3_2_Least(t *testing.T) {
	for _, l := range append(small(), large()...) {
		p := mustHull(t, l)
		if !Valid(p) || !slices.Equal(p, wrapped(l)) {
			t.Fatalf("Hull(%v): %v instead of %v", l, p, wrapped(l))
		}
		for _, x := range l {
			if !mustHave(t, p, x) {
				t.Fatalf("Hull(%v): %v has not %v", l, p, x)
			}
		}
		for _, c := range p {
			if !slices.Contains(l, c) {
				t.Fatalf("Hull(%v): %v has a corner %v that is none of them", l, p, c)
			}
		}
	}
}

func TestP3_2_OtherPolygons(t *testing.T) {
	others := polygons(t, small())
	for _, l := range subsets() {
		p := mustHull(t, l)
		for _, q := range others {
			if hasAll(t, q, l) != hasAll(t, q, p) {
				t.Fatalf("%v has all of %v: %v, and of its hull %v: %v", q, l, hasAll(t, q, l), p, hasAll(t, q, p))
			}
		}
	}
}

func hasAll(t *testing.T, p, l []api.Point) bool {
	t.Helper()
	for _, x := range l {
		if !mustHave(t, p, x) {
			return false
		}
	}
	return true
}

func TestP3_3_Order(t *testing.T) {
	random := rand.New(rand.NewSource(4))
	for _, l := range append(small(), large()...) {
		p := mustHull(t, l)
		if q := mustHull(t, p); !slices.Equal(q, p) {
			t.Fatalf("Hull(%v): %v", p, q)
		}
		q := append(slices.Clone(l), l...)
		for range 5 {
			random.Shuffle(len(q), func(i, k int) { q[i], q[k] = q[k], q[i] })
			if r := mustHull(t, q); !slices.Equal(r, p) {
				t.Fatalf("Hull(%v): %v instead of %v", q, r, p)
			}
		}
	}
}

func TestP3_4_Convex(t *testing.T) {
	places := grid(-4, 4)
	for _, p := range polygons(t, small()) {
		inside := slices.DeleteFunc(slices.Clone(places), func(x api.Point) bool { return !mustHave(t, p, x) })
		for _, a := range inside {
			for _, b := range inside {
				checkMiddle(t, p, a, b)
			}
		}
	}
}

func TestP3_4_ConvexFarAway(t *testing.T) {
	for _, p := range polygons(t, large()) {
		inside := slices.DeleteFunc(near(p), func(x api.Point) bool { return !mustHave(t, p, x) })
		for _, a := range inside {
			for _, b := range p {
				checkMiddle(t, p, a, b)
			}
		}
	}
}

func checkMiddle(t *testing.T, p []api.Point, a, b api.Point) {
	t.Helper()
	if (a.X+b.X)%2 != 0 || (a.Y+b.Y)%2 != 0 {
		return
	}
	if x := (api.Point{X: (a.X + b.X) / 2, Y: (a.Y + b.Y) / 2}); !mustHave(t, p, x) {
		t.Fatalf("%v has %v and %v, but not %v", p, a, b, x)
	}
}

func TestP3_5_Boxes(t *testing.T) {
	places := grid(-5, 5)
	for _, p := range polygons(t, small()) {
		checkBoxes(t, p, places)
	}
	for _, p := range polygons(t, large()) {
		checkBoxes(t, p, near(p))
	}
}

func checkBoxes(t *testing.T, p, places []api.Point) {
	t.Helper()
	lo, hi := mustBox(t, p)
	q := mustEight(t, p)
	inBox := func(x api.Point) bool { return lo.X <= x.X && x.X <= hi.X && lo.Y <= x.Y && x.Y <= hi.Y }
	for _, x := range places {
		is, wide := mustHave(t, p, x), mustHave(t, q, x)
		if is && !wide || wide && !inBox(x) {
			t.Fatalf("%v has %v: %v; its eight-sided hull %v: %v; its box %v, %v: %v", p, x, is, q, wide, lo, hi, inBox(x))
		}
	}
	if !Valid(q) || len(q) > 8 || !inBox(q[0]) || !hasAll(t, q, p) {
		t.Fatalf("Eight(%v): %v, in the box %v, %v", p, q, lo, hi)
	}
	if l, h := mustBox(t, q); l != lo || h != hi {
		t.Fatalf("%v has the box %v, %v, its eight-sided hull %v, %v", p, lo, hi, l, h)
	}
	if r := mustEight(t, q); !slices.Equal(r, q) {
		t.Fatalf("Eight(%v): %v", q, r)
	}
}

func TestP3_6_Areas(t *testing.T) {
	places := grid(-5, 5)
	for _, p := range polygons(t, small()) {
		checkTriangles(t, p, places)
	}
	for _, p := range polygons(t, large()) {
		checkTriangles(t, p, near(p))
	}
}

func checkTriangles(t *testing.T, p, places []api.Point) {
	t.Helper()
	area := mustArea(t, p)
	if len(p) < 3 {
		if area != 0 {
			t.Fatalf("Area(%v): %d", p, area)
		}
		return
	}
	for _, x := range places {
		sum := 0
		for i, a := range p {
			sum += mustArea(t, mustHull(t, []api.Point{a, p[(i+1)%len(p)], x}))
		}
		if is := mustHave(t, p, x); sum < area || is != (sum == area) {
			t.Fatalf("the triangles of %v with the sides of %v have %d, this has %d, and the place: %v", x, p, sum, area, is)
		}
	}
}

func TestP3_7_MorePlaces(t *testing.T) {
	places := grid(-5, 5)
	for _, l := range small() {
		checkMore(t, l, places)
	}
	for _, l := range large() {
		checkMore(t, l, near(mustHull(t, l)))
	}
}

func checkMore(t *testing.T, l, places []api.Point) {
	t.Helper()
	p := mustHull(t, l)
	area := mustArea(t, p)
	for _, x := range places {
		q, e := Hull(append(slices.Clone(l), x))
		if e == api.ErrLimit && len(p) == api.MaxCorners && !has(p, x) {
			continue
		}
		if e != api.OK {
			t.Fatalf("Hull of %v and %v: %v", l, x, e)
		}
		more, is := mustArea(t, q), mustHave(t, p, x)
		if more < area || len(p) >= 3 && is != (more == area) || is != slices.Equal(p, q) {
			t.Fatalf("%v with %v: %v; areas %d and %d; it had it: %v", p, x, q, area, more, is)
		}
	}
}

func TestP1_AllArgumentsEnd(t *testing.T) {
	lists := append(noPolygons(), large()...)
	lists = append(lists, noPlaces(), make([]api.Point, 4001), append(make([]api.Point, 3999), noPlaces()...))
	for _, p := range lists {
		q, e := Hull(p)
		if (e == api.OK) != (len(q) > 0) || e == api.OK && !Valid(q) {
			t.Errorf("Hull(%v): %v, %v", p, q, e)
		}
		want := api.ErrArg
		if Valid(p) {
			want = api.OK
		}
		lo, hi, e := Box(p)
		if e != want || e != api.OK && (lo != api.Point{} || hi != api.Point{}) {
			t.Errorf("Box(%v): %v, %v, %v", p, lo, hi, e)
		}
		if q, e := Eight(p); e != want || (e == api.OK) != (len(q) > 0) {
			t.Errorf("Eight(%v): %v, %v", p, q, e)
		}
		if n, e := Area(p); e != want || n < 0 || e != api.OK && n != 0 {
			t.Errorf("Area(%v): %d, %v", p, n, e)
		}
		for _, x := range slices.Concat(noPlaces(), at(0, 0, most, most)) {
			if is, e := Has(p, x); is && e != api.OK || e == api.OK && !Valid(p) {
				t.Errorf("Has(%v, %v): %v, %v", p, x, is, e)
			}
		}
	}
}

// Nothing that a vehicle could be at may get lost: what stands for places has all of them (T1).
func TestP2_T1_NothingIsLost(t *testing.T) {
	for _, l := range append(small(), large()...) {
		p := mustHull(t, l)
		if q := mustEight(t, p); !hasAll(t, p, l) || !hasAll(t, q, l) {
			t.Fatalf("%v, %v have not all of %v", p, q, l)
		}
	}
}

// Places in any order, and twice, lead to the same (T9), or to the same error.
func TestP2_T9_AnyOrder(t *testing.T) {
	random := rand.New(rand.NewSource(5))
	for _, l := range [][]api.Point{parabola(64), parabola(65), round(64), append(round(64), parabola(2)...), append(parabola(64), parabola(64)...), append(parabola(5), noPlaces()[0])} {
		p, e := Hull(l)
		q := append(slices.Clone(l), l...)
		for range 20 {
			random.Shuffle(len(q), func(i, k int) { q[i], q[k] = q[k], q[i] })
			if r, f := Hull(q); f != e || !slices.Equal(r, p) {
				t.Fatalf("Hull(%v): %v, %v instead of %v, %v", q, r, f, p, e)
			}
		}
	}
}
