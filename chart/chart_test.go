package chart

import (
	"math"
	"math/rand"
	"slices"
	"testing"

	"landfall/api"
)

func mustAt(t *testing.T, c api.Chart, x api.Point) (int, bool) {
	t.Helper()
	i, is, e := At(c, x)
	if e != api.OK || i < 0 || i >= len(c.Cells) || !is && i != 0 {
		t.Fatalf("At(%v): %d, %t, %v", x, i, is, e)
	}
	return i, is
}

func mustSquare(t *testing.T, c api.Chart, i int) box {
	t.Helper()
	lo, hi, e := Square(c, i)
	if e != api.OK {
		t.Fatalf("Square(%d): %v", i, e)
	}
	return box{lo, hi}
}

func mustTouched(t *testing.T, c api.Chart, b box) []int {
	t.Helper()
	l, e := Touched(c, b.lo, b.hi)
	if e != api.OK || !slices.IsSorted(l) {
		t.Fatalf("Touched(%v): %v, %v", b, l, e)
	}
	return l
}

func mustDigest(t *testing.T, c api.Chart) uint64 {
	t.Helper()
	d, e := Digest(c)
	if e != api.OK {
		t.Fatalf("Digest: %v", e)
	}
	return d
}

// asWords checks all functions but Valid against the chapter's words.
func asWords(t *testing.T, c api.Chart, x api.Point, b box, n int) {
	t.Helper()
	i, isAt, eAt := At(c, x)
	if want, is, e := saidAt(c, x); i != want || isAt != is || eAt != e {
		t.Fatalf("At(%v, %v): %d, %t, %v instead of %d, %t, %v", c, x, i, isAt, eAt, want, is, e)
	}
	lo, hi, eSquare := Square(c, n)
	if wantLo, wantHi, e := saidSquare(c, n); lo != wantLo || hi != wantHi || eSquare != e {
		t.Fatalf("Square(%v, %d): %v, %v, %v instead of %v, %v, %v", c, n, lo, hi, eSquare, wantLo, wantHi, e)
	}
	l, eTouched := Touched(c, b.lo, b.hi)
	if want, e := saidTouched(c, b.lo, b.hi); !slices.Equal(l, want) || eTouched != e {
		t.Fatalf("Touched(%v, %v): %v, %v instead of %v, %v", c, b, l, eTouched, want, e)
	}
	namesAsWords(t, c, n)
}

// namesAsWords checks what is found by an ID, and the digest, against the chapter's words.
func namesAsWords(t *testing.T, c api.Chart, id int) {
	t.Helper()
	p, isBeacon, eBeacon := Beacon(c, id)
	if want, is, e := saidBeacon(c, id); p != want || isBeacon != is || eBeacon != e {
		t.Fatalf("Beacon(%v, %d): %v, %t, %v instead of %v, %t, %v", c, id, p, isBeacon, eBeacon, want, is, e)
	}
	l, isLine, eLine := Line(c, id)
	if want, is, e := saidLine(c, id); !areSameLines(l, want) || isLine != is || eLine != e {
		t.Fatalf("Line(%v, %d): %v, %t, %v instead of %v, %t, %v", c, id, l, isLine, eLine, want, is, e)
	}
	d, eDigest := Digest(c)
	if want, e := saidDigest(c); d != want || eDigest != e {
		t.Fatalf("Digest(%v): %d, %v instead of %d, %v", c, d, eDigest, want, e)
	}
}

// refused checks that there is an error, and nothing else, whatever is asked for.
func refused(t *testing.T, c api.Chart, x api.Point, b box, n int) {
	t.Helper()
	if Valid(c) {
		t.Fatalf("%v is valid", c)
	}
	if i, is, e := At(c, x); i != 0 || is || e != api.ErrArg {
		t.Fatalf("At(%v, %v): %d, %t, %v", c, x, i, is, e)
	}
	if lo, hi, e := Square(c, n); lo != (api.Point{}) || hi != (api.Point{}) || e != api.ErrArg {
		t.Fatalf("Square(%v, %d): %v, %v, %v", c, n, lo, hi, e)
	}
	if l, e := Touched(c, b.lo, b.hi); len(l) != 0 || e != api.ErrArg {
		t.Fatalf("Touched(%v, %v): %v, %v", c, b, l, e)
	}
	if x, is, e := Beacon(c, n); x != (api.Point{}) || is || e != api.ErrArg {
		t.Fatalf("Beacon(%v, %d): %v, %t, %v", c, n, x, is, e)
	}
	if l, is, e := Line(c, n); l.ID != 0 || len(l.Points) != 0 || is || e != api.ErrArg {
		t.Fatalf("Line(%v, %d): %v, %t, %v", c, n, l, is, e)
	}
	if d, e := Digest(c); d != 0 || e != api.ErrArg {
		t.Fatalf("Digest(%v): %d, %v", c, d, e)
	}
}

func TestP15_1_Limits(t *testing.T) {
	if api.MaxID != maxID || api.MaxCells != maxCells || api.MaxSize != maxSize || api.MaxCoord != maxCoord || api.MaxDepth != maxDepth || api.MaxTime != maxDate || api.MaxBeacons != maxBeacons || api.MaxLines != maxLines || api.MaxPoints != maxPoints {
		t.Error("the limits are not the chapter's")
	}
}

func TestP15_1_Valid(t *testing.T) {
	for i, c := range append(charts(), small()...) {
		if !isChart(c) || !Valid(c) {
			t.Errorf("chart %d is not valid", i)
		}
	}
	random := rand.New(rand.NewSource(1))
	for range 2000 {
		if c := anyChart(random, 60); !isChart(c) || !Valid(c) {
			t.Fatalf("%v is not valid", c)
		}
	}
}

// Each number of a chart can be all that its limits allow, both ends included, but for an ID that another one has, and a place that its neighbour is.
func TestP15_1_ValidNumbers(t *testing.T) {
	random := rand.New(rand.NewSource(2))
	taken := 0
	for _, c := range []api.Chart{example(), full(), anyChart(random, 20), anyChart(random, 500)} {
		for i, x := range numbers(c) {
			for _, n := range append([]int{x.lo - 2, x.lo - 1, x.lo, x.lo + 1, (x.lo + x.hi) / 2, x.hi - 1, x.hi, x.hi + 1, x.hi + 2}, x.taken...) {
				want := inOrder(x.lo, n, x.hi) && !slices.Contains(x.taken, n)
				if got := x.set(c, n); Valid(got) != want || isChart(got) != want {
					t.Errorf("number %d, from %d to %d: %d", i, x.lo, x.hi, n)
				}
			}
			taken += len(x.taken)
		}
	}
	if taken < 100 {
		t.Errorf("only %d numbers are taken", taken)
	}
}

// A chart has as many cells as columns and rows, and at most 4000.
func TestP15_1_ValidCells(t *testing.T) {
	cells := make([]api.Cell, 10001)
	lengths := []int{0, 1, 2, 3, 4, 6, 12, 63, 64, 3969, 3999, maxCells, maxCells + 1, 4032, 4096, 10000, 10001}
	sides := []int{math.MinInt, -maxCells, -2, -1, 0, 1, 2, 3, 4, 6, 12, 63, 64, 100, 101, 3999, maxCells, maxCells + 1, 10000, math.MaxInt}
	for _, n := range lengths {
		for _, w := range sides {
			for _, h := range sides {
				want := w > 0 && h > 0 && w <= n && h <= n && n <= maxCells && w*h == n
				if c := (api.Chart{Version: 1, W: w, H: h, Size: 1, Cells: cells[:n]}); Valid(c) != want || isChart(c) != want {
					t.Errorf("%d times %d, and %d cells: %t", w, h, n, Valid(c))
				}
			}
		}
	}
}

// wraps returns the factor by which an odd number wraps around to a product.
func wraps(odd, product int) int {
	x := odd
	for range 6 {
		x *= 2 - odd*x
	}
	return x * product
}

// Whatever wraps around is no number of cells, and nowhere in the sea.
func TestP15_1_ValidWrapped(t *testing.T) {
	for _, n := range []int{0, 1, 6, 4000} {
		for _, sides := range [][2]int{{1 << 32, 1 << 32}, {1 << 62, 4}, {5, wraps(5, n)}, {3, wraps(3, n)}, {3999, wraps(3999, n)}, {-7, wraps(-7, n)}, {-1, -n}, {math.MinInt, math.MinInt}, {1 << 40, 1 << 24}} {
			for _, c := range []squares{{sides[0], sides[1], 1}, {sides[1], sides[0], 1}} {
				wrong := api.Chart{Version: 1, W: c.w, H: c.h, Size: 1, Cells: make([]api.Cell, n)}
				// Three times 2 are really 6.
				if c.w > 0 && c.h > 0 && c.w <= n && c.h <= n {
					wrong.Size = 0
				}
				refused(t, wrong, at(0, 0), box{}, 0)
			}
		}
	}
	for _, x := range append(outside(-maxCoord, maxCoord), math.MaxInt-14, math.MaxInt-15, math.MaxInt-16, math.MaxInt-500000) {
		refused(t, changed(example(), func(c *api.Chart) { c.X = x }), at(0, 0), box{}, 0)
		refused(t, changed(example(), func(c *api.Chart) { c.Y = x }), at(0, 0), box{}, 0)
	}
	for _, size := range []int{math.MinInt, 1 << 62, 1 << 61, 1 << 60, math.MaxInt, math.MaxInt/3 + 1, -5, 0, wraps(3, 15)} {
		if size != 5 {
			refused(t, changed(example(), func(c *api.Chart) { c.Size = size }), at(0, 0), box{}, 0)
		}
	}
}

// A cell, a beacon, a line or a place of a line is as wrong behind right ones as before them.
func TestP15_1_ValidPlaces(t *testing.T) {
	c := full()
	for i := 0; i < maxCells; i += 37 {
		refused(t, changed(c, func(c *api.Chart) { c.Cells[i].Depth = api.Span{Lo: 1} }), at(0, 0), box{}, 0)
	}
	for i := range maxBeacons {
		refused(t, changed(c, func(c *api.Chart) { c.Beacons[i].At = at(0, maxCoord+1) }), at(0, 0), box{}, 0)
		for j := range i {
			refused(t, changed(c, func(c *api.Chart) { c.Beacons[i].ID = c.Beacons[j].ID }), at(0, 0), box{}, 0)
		}
	}
	for i := range maxLines {
		for j := range i {
			refused(t, changed(c, func(c *api.Chart) { c.Lines[i].ID = c.Lines[j].ID }), at(0, 0), box{}, 0)
		}
		for j := i % 7; j < maxPoints; j += 7 {
			refused(t, changed(c, func(c *api.Chart) { c.Lines[i].Points[j].X = -maxCoord - 1 }), at(0, 0), box{}, 0)
			if j > 0 {
				refused(t, changed(c, func(c *api.Chart) { c.Lines[i].Points[j] = c.Lines[i].Points[j-1] }), at(0, 0), box{}, 0)
			}
		}
	}
}

func TestP15_1_ValidLengths(t *testing.T) {
	random := rand.New(rand.NewSource(3))
	for _, n := range []int{0, 1, 2, 49, 50, 51, 63, 64, 65, 99, 100, 101, 102, 1000} {
		c := squares{1, 1, 1}.empty(0, 0)
		for _, id := range anyIDs(random, n) {
			c.Beacons = append(c.Beacons, api.Beacon{ID: id})
		}
		if Valid(c) != (n <= maxBeacons) {
			t.Errorf("%d beacons: %t", n, Valid(c))
		}
		c.Beacons = nil
		for _, id := range anyIDs(random, n) {
			c.Lines = append(c.Lines, api.Line{ID: id, Points: anyLine(random, 2)})
		}
		if Valid(c) != (n <= maxLines) {
			t.Errorf("%d lines: %t", n, Valid(c))
		}
		c.Lines = []api.Line{{ID: 1, Points: anyLine(random, max(n, 1))[:n]}}
		if Valid(c) != inOrder(2, n, maxPoints) {
			t.Errorf("%d places of a line: %t", n, Valid(c))
		}
	}
}

// A line can come back to a place, and to its first one; beacons can be at the same place; a beacon and a line can have the same ID, and none of them need be in a square.
func TestP15_1_ValidLines(t *testing.T) {
	for _, c := range []struct {
		l    []api.Point
		want bool
	}{
		{[]api.Point{at(0, 0), at(0, 1)}, true},
		{[]api.Point{at(0, 0), at(1, 0)}, true},
		{[]api.Point{at(0, 0), at(0, 0)}, false},
		{[]api.Point{at(0, 0), at(1, 0), at(0, 0)}, true},
		{[]api.Point{at(0, 0), at(1, 0), at(0, 0), at(1, 0)}, true},
		{[]api.Point{at(0, 0), at(1, 1), at(1, 1), at(0, 0)}, false},
		{[]api.Point{at(3, 3), at(3, 3), at(1, 0)}, false},
		{[]api.Point{at(1, 0), at(3, 3), at(3, 3)}, false},
		{[]api.Point{at(-maxCoord, -maxCoord), at(maxCoord, maxCoord)}, true},
	} {
		x := squares{1, 1, 1}.empty(0, 0)
		x.Beacons = []api.Beacon{{ID: 1, At: at(5, 5)}, {ID: 2, At: at(5, 5)}}
		x.Lines = []api.Line{{ID: 2, Points: []api.Point{at(5, 5), at(5, 6)}}, {ID: 1, Points: c.l}}
		if Valid(x) != c.want {
			t.Errorf("%v: %t", c.l, Valid(x))
		}
	}
}

func TestP15_1_Examples(t *testing.T) {
	c := example()
	for _, x := range []struct {
		x  api.Point
		i  int
		is bool
	}{{at(14, 20), 0, true}, {at(15, 25), 4, true}, {at(25, 20), 0, false}, {at(10, 20), 0, true}, {at(24, 29), 5, true}, {at(24, 24), 2, true}, {at(10, 29), 3, true}, {at(9, 20), 0, false}, {at(10, 19), 0, false}, {at(24, 30), 0, false}, {at(10, 30), 0, false}, {at(-maxCoord, -maxCoord), 0, false}, {at(maxCoord, maxCoord), 0, false}} {
		if i, is := mustAt(t, c, x.x); i != x.i || is != x.is {
			t.Errorf("At(%v): %d, %t", x.x, i, is)
		}
	}
	if b := mustSquare(t, c, 4); b != (box{at(15, 25), at(19, 29)}) {
		t.Errorf("Square(4): %v", b)
	}
	if b := mustSquare(t, c, 0); b != (box{at(10, 20), at(14, 24)}) {
		t.Errorf("Square(0): %v", b)
	}
	for _, x := range []struct {
		b    box
		want []int
	}{{box{at(0, 0), at(15, 24)}, []int{0, 1}}, {box{at(0, 0), at(14, 24)}, []int{0}}, {box{at(0, 0), at(14, 25)}, []int{0, 3}}, {box{at(0, 0), at(9, 19)}, nil}, {box{at(25, 30), at(25, 30)}, nil}, {box{at(-maxCoord, -maxCoord), at(maxCoord, maxCoord)}, []int{0, 1, 2, 3, 4, 5}}, {box{at(16, 21), at(18, 23)}, []int{1}}, {box{at(19, 0), at(20, 99)}, []int{1, 2, 4, 5}}, {box{at(10, 30), at(24, 99)}, nil}, {box{at(0, 20), at(9, 29)}, nil}} {
		if l := mustTouched(t, c, x.b); !slices.Equal(l, x.want) {
			t.Errorf("Touched(%v): %v", x.b, l)
		}
	}
}

func TestP15_1_NamesExamples(t *testing.T) {
	c := example()
	for _, x := range []struct {
		id   int
		want api.Point
		is   bool
	}{{7, at(1, 2), true}, {3, at(-56, 61), true}, {999, at(-4000, -17), true}, {8, at(0, 0), false}, {0, at(0, 0), false}, {-7, at(0, 0), false}, {1, at(0, 0), false}, {math.MaxInt, at(0, 0), false}, {math.MinInt, at(0, 0), false}} {
		if p, is, e := Beacon(c, x.id); p != x.want || is != x.is || e != api.OK {
			t.Errorf("Beacon(%d): %v, %t, %v", x.id, p, is, e)
		}
	}
	for _, x := range []struct {
		id, want, n int
		is          bool
	}{{8, 8, 2, true}, {7, 7, 4, true}, {3, 0, 0, false}, {0, 0, 0, false}, {-8, 0, 0, false}, {math.MaxInt, 0, 0, false}} {
		if l, is, e := Line(c, x.id); l.ID != x.want || len(l.Points) != x.n || is != x.is || e != api.OK {
			t.Errorf("Line(%d): %v, %t, %v", x.id, l, is, e)
		}
	}
	if l, _, _ := Line(c, 7); !slices.Equal(l.Points, []api.Point{at(-21, 22), at(-23, -24), at(25, -26), at(-21, 22)}) {
		t.Errorf("Line(7): %v", l)
	}
}

func TestP15_1_ByWords(t *testing.T) {
	random := rand.New(rand.NewSource(4))
	for _, c := range charts() {
		for range 30 {
			asWords(t, c, anyPlace(random, c), anyBox(random, c), random.Intn(len(c.Cells)+2)-1)
		}
	}
	for range 20000 {
		c := anyChart(random, 30)
		asWords(t, c, anyPlace(random, c), anyBox(random, c), random.Intn(12)-1)
	}
}

// What is wrong in a single thing is no chart, whatever else is asked for.
func TestP15_1_WrongCharts(t *testing.T) {
	for _, c := range wrongCharts() {
		if isChart(c) {
			t.Fatalf("%v is valid", c)
		}
		for _, n := range []int{0, 7, 8, -1, 6} {
			refused(t, c, at(12, 22), box{at(0, 0), at(99, 99)}, n)
			refused(t, c, at(maxCoord+1, 0), box{at(1, 0), at(0, 0)}, n)
		}
	}
}

func TestP15_1_WrongPlaces(t *testing.T) {
	for _, c := range []api.Chart{example(), full(), squares{1, 1, 1}.empty(maxCoord, -maxCoord)} {
		for _, x := range outsideThePlaces() {
			if i, is, e := At(c, x); i != 0 || is || e != api.ErrArg {
				t.Errorf("At(%v): %d, %t, %v", x, i, is, e)
			}
			for _, y := range []api.Point{at(0, 0), at(-maxCoord, -maxCoord), at(maxCoord, maxCoord), x} {
				for _, b := range []box{{x, y}, {y, x}} {
					if l, e := Touched(c, b.lo, b.hi); len(l) != 0 || e != api.ErrArg {
						t.Errorf("Touched(%v): %v, %v", b, l, e)
					}
				}
			}
		}
		for _, i := range append(outside(0, len(c.Cells)-1), -len(c.Cells)) {
			if lo, hi, e := Square(c, i); lo != (api.Point{}) || hi != (api.Point{}) || e != api.ErrArg {
				t.Errorf("Square(%d): %v, %v, %v", i, lo, hi, e)
			}
		}
	}
}

// A rectangle has its ends in order, in X and in Y.
func TestP15_1_WrongRectangles(t *testing.T) {
	c := example()
	for _, x := range []int{-maxCoord, -1, 10, 11, 24, maxCoord} {
		for _, y := range []int{-maxCoord, 10, 12, 25, maxCoord} {
			for _, lo := range []api.Point{at(x, 20), at(20, x), at(x, x)} {
				for _, hi := range []api.Point{at(y, 20), at(20, y), at(y, y)} {
					l, e := Touched(c, lo, hi)
					if is := lo.X <= hi.X && lo.Y <= hi.Y; is != (e == api.OK) || !is && (len(l) != 0 || e != api.ErrArg) {
						t.Errorf("Touched(%v, %v): %v, %v", lo, hi, l, e)
					}
				}
			}
		}
	}
}

// Each place of a small chart, and around it, is in as many squares as it has cells that are found for it.
func TestP15_2_AllPlaces(t *testing.T) {
	for _, c := range append(small(), example()) {
		l := make([]box, len(c.Cells))
		for i := range l {
			l[i] = mustSquare(t, c, i)
		}
		places := 0
		for _, x := range near(c, 4) {
			in := meeting(l, box{x, x})
			i, is := mustAt(t, c, x)
			if is != (len(in) == 1) || len(in) > 1 || is && in[0] != i {
				t.Fatalf("%v is in %v, and %d, %t is found for it", x, in, i, is)
			}
			places += len(in)
		}
		if places != c.W*c.H*c.Size*c.Size {
			t.Errorf("%d places are in the squares", places)
		}
	}
}

func TestP15_2_Squares(t *testing.T) {
	for _, c := range charts() {
		for i, b := range boxes(c) {
			if i%7 > 0 && i%c.W > 0 && i%c.W < c.W-1 {
				continue
			}
			if got := mustSquare(t, c, i); got != b {
				t.Fatalf("square %d has %v instead of %v", i, got, b)
			}
			for _, x := range b.corners() {
				if got, is := mustAt(t, c, x); got != i || !is {
					t.Fatalf("%v of %d is in %d, %t", x, i, got, is)
				}
			}
		}
	}
}

// No cell is found for what is next to the squares of a chart, and one is for what is next to that.
func TestP15_2_Sides(t *testing.T) {
	sides := 0
	for _, c := range charts() {
		b := whole(c)
		for _, x := range b.corners() {
			if _, is := mustAt(t, c, x); !is {
				t.Errorf("%v, a corner, is in no cell", x)
			}
			for _, y := range []api.Point{at(b.lo.X-1, x.Y), at(b.hi.X+1, x.Y), at(x.X, b.lo.Y-1), at(x.X, b.hi.Y+1), at(b.lo.X-c.Size, x.Y), at(x.X, b.hi.Y+c.Size)} {
				if !isPlaceOfSea(y) {
					continue
				}
				if i, is := mustAt(t, c, y); i != 0 || is {
					t.Errorf("%v, beside the squares, is in %d", y, i)
				}
				sides++
			}
		}
	}
	if sides < 1000 {
		t.Errorf("only %d places beside squares", sides)
	}
}

func TestP15_2_AnyPlaces(t *testing.T) {
	random := rand.New(rand.NewSource(5))
	none := 0
	for range 30000 {
		c := anyChart(random, 200)
		x := anyPlace(random, c)
		i, is := mustAt(t, c, x)
		if in := whole(c).has(x); is != in || is && !mustSquare(t, c, i).has(x) {
			t.Fatalf("%v is in %d, %t", x, i, is)
		}
		if !is {
			none++
		}
	}
	if none < 3000 {
		t.Errorf("only %d places in no cell", none)
	}
}

// All rectangles around small charts.
func TestP15_3_AllRectangles(t *testing.T) {
	for _, c := range small() {
		l := make([]box, len(c.Cells))
		for i := range l {
			l[i] = mustSquare(t, c, i)
		}
		places := near(c, 2)
		for _, lo := range places {
			for _, hi := range places {
				if lo.X > hi.X || lo.Y > hi.Y {
					continue
				}
				if got := mustTouched(t, c, box{lo, hi}); !slices.Equal(got, meeting(l, box{lo, hi})) {
					t.Fatalf("%v to %v touches %v instead of %v", lo, hi, got, meeting(l, box{lo, hi}))
				}
			}
		}
	}
}

func TestP15_3_Exactly(t *testing.T) {
	random := rand.New(rand.NewSource(6))
	count := map[int]int{}
	try := func(c api.Chart, l []box) {
		b := anyBox(random, c)
		got := mustTouched(t, c, b)
		if !slices.Equal(got, meeting(l, b)) {
			t.Fatalf("%v touches %v instead of %v", b, got, meeting(l, b))
		}
		count[min(len(got), 3)]++
	}
	for _, c := range charts() {
		l := boxes(c)
		for range 60 {
			try(c, l)
		}
	}
	for range 20000 {
		c := anyChart(random, 100)
		try(c, boxes(c))
	}
	for n := range 4 {
		if count[n] < 1000 {
			t.Errorf("only %d rectangles touch %d cells", count[n], n)
		}
	}
}

func TestP15_3_OnePlace(t *testing.T) {
	random := rand.New(rand.NewSource(7))
	try := func(c api.Chart, x api.Point) {
		i, is := mustAt(t, c, x)
		if l := mustTouched(t, c, box{x, x}); is && !slices.Equal(l, []int{i}) || !is && len(l) > 0 {
			t.Fatalf("%v is in %d, %t, and touches %v", x, i, is, l)
		}
	}
	for _, c := range append(small(), example()) {
		for _, x := range near(c, 3) {
			try(c, x)
		}
	}
	for _, c := range charts() {
		for range 100 {
			try(c, anyPlace(random, c))
		}
	}
}

// A square touches its own cell alone, and the four cells beside it if it is one place wider on each side.
func TestP15_3_Squares(t *testing.T) {
	for _, c := range charts() {
		for _, i := range some(len(c.Cells)) {
			b := mustSquare(t, c, i)
			if l := mustTouched(t, c, b); !slices.Equal(l, []int{i}) {
				t.Fatalf("the square of %d touches %v", i, l)
			}
			for _, x := range []struct {
				b     box
				by    int
				there bool
			}{
				{box{at(b.lo.X-1, b.lo.Y), b.hi}, -1, i%c.W > 0}, {box{b.lo, at(b.hi.X+1, b.hi.Y)}, 1, i%c.W < c.W-1},
				{box{at(b.lo.X, b.lo.Y-1), b.hi}, -c.W, i >= c.W}, {box{b.lo, at(b.hi.X, b.hi.Y+1)}, c.W, i+c.W < len(c.Cells)},
			} {
				want := []int{i}
				if x.there {
					want = []int{min(i, i+x.by), max(i, i+x.by)}
				}
				if !isRectangleOfSea(x.b.lo, x.b.hi) {
					continue
				}
				if l := mustTouched(t, c, x.b); !slices.Equal(l, want) {
					t.Fatalf("%v, one wider than the square of %d, touches %v", x.b, i, l)
				}
			}
		}
	}
}

// part returns a rectangle in another one.
func (b box) part(random *rand.Rand) box {
	within := func(lo, hi int) (int, int) {
		a, b := somewhere(random, lo, hi), somewhere(random, lo, hi)
		return min(a, b), max(a, b)
	}
	b.lo.X, b.hi.X = within(b.lo.X, b.hi.X)
	b.lo.Y, b.hi.Y = within(b.lo.Y, b.hi.Y)
	return b
}

func TestP15_4_GreaterRectangles(t *testing.T) {
	random := rand.New(rand.NewSource(8))
	less := 0
	for _, c := range charts() {
		for range 30 {
			b := anyBox(random, c)
			l := mustTouched(t, c, b)
			for range 5 {
				p := b.part(random)
				lesser := mustTouched(t, c, p)
				for _, i := range lesser {
					if _, is := slices.BinarySearch(l, i); !is {
						t.Fatalf("%v touches %d, and %v does not", p, i, b)
					}
				}
				if len(lesser) < len(l) {
					less++
				}
			}
		}
	}
	if less < 1000 {
		t.Errorf("only %d rectangles touch less", less)
	}
}

// both returns what one of two rising lists has, rising.
func both(a, b []int) []int {
	l := slices.Concat(a, b)
	slices.Sort(l)
	return slices.Compact(l)
}

// divided returns the two parts of a rectangle that has been divided somewhere, in X or in Y; or twice all of it, if it is too small for that.
func (b box) divided(random *rand.Rand) (one, other box) {
	one, other = b, b
	switch {
	case b.lo.X < b.hi.X && (random.Intn(2) > 0 || b.lo.Y == b.hi.Y):
		one.hi.X = somewhere(random, b.lo.X, b.hi.X-1)
		other.lo.X = one.hi.X + 1
	case b.lo.Y < b.hi.Y:
		one.hi.Y = somewhere(random, b.lo.Y, b.hi.Y-1)
		other.lo.Y = one.hi.Y + 1
	}
	return one, other
}

func TestP15_4_Divided(t *testing.T) {
	random := rand.New(rand.NewSource(9))
	shared, apart := 0, 0
	for _, c := range charts() {
		for range 100 {
			b := anyBox(random, c)
			one, other := b.divided(random)
			l, first, second := mustTouched(t, c, b), mustTouched(t, c, one), mustTouched(t, c, other)
			if !slices.Equal(l, both(first, second)) {
				t.Fatalf("%v touches %v, %v touches %v, and %v touches %v", b, l, one, first, other, second)
			}
			if len(l) < len(first)+len(second) {
				shared++
			} else if len(first) > 0 && len(second) > 0 {
				apart++
			}
		}
	}
	if shared < 1000 || apart < 500 {
		t.Errorf("%d times both parts touch the same cells, and %d times others", shared, apart)
	}
}

// What one rectangle touches is what all of its places touch.
func TestP15_4_OneByOne(t *testing.T) {
	random := rand.New(rand.NewSource(10))
	for _, c := range append(small(), example()) {
		for range 200 {
			b := box{at(c.X-5, c.Y-5), at(whole(c).hi.X+5, whole(c).hi.Y+5)}.part(random)
			var l []int
			for y := b.lo.Y; y <= b.hi.Y; y++ {
				for x := b.lo.X; x <= b.hi.X; x++ {
					l = append(l, mustTouched(t, c, box{at(x, y), at(x, y)})...)
				}
			}
			if got := mustTouched(t, c, b); !slices.Equal(got, both(l, nil)) {
				t.Fatalf("%v touches %v, and its places %v", b, got, both(l, nil))
			}
		}
	}
}

func TestP15_5_Names(t *testing.T) {
	random := rand.New(rand.NewSource(11))
	all := []api.Chart{example(), full()}
	for range 300 {
		all = append(all, anyChart(random, 5))
	}
	for _, c := range all {
		shuffled := copied(c)
		random.Shuffle(len(c.Beacons), func(i, j int) {
			shuffled.Beacons[i], shuffled.Beacons[j] = shuffled.Beacons[j], shuffled.Beacons[i]
		})
		random.Shuffle(len(c.Lines), func(i, j int) { shuffled.Lines[i], shuffled.Lines[j] = shuffled.Lines[j], shuffled.Lines[i] })
		for _, x := range []api.Chart{c, shuffled} {
			for _, b := range c.Beacons {
				if p, is, e := Beacon(x, b.ID); p != b.At || !is || e != api.OK {
					t.Fatalf("Beacon(%d): %v, %t, %v instead of %v", b.ID, p, is, e, b.At)
				}
			}
			for _, l := range c.Lines {
				if got, is, e := Line(x, l.ID); !areSameLines(got, l) || !is || e != api.OK {
					t.Fatalf("Line(%d): %v, %t, %v instead of %v", l.ID, got, is, e, l)
				}
			}
		}
	}
}

// A beacon or a line is found wherever it is put among the others, and not before.
func TestP15_5_EveryPlace(t *testing.T) {
	c := full()
	const id = 555
	c.Beacons, c.Lines = c.Beacons[:maxBeacons-1], c.Lines[:maxLines-1]
	line := api.Line{ID: id, Points: []api.Point{at(1, 2), at(-3, 4), at(5, -6)}}
	if x, is, e := Beacon(c, id); x != at(0, 0) || is || e != api.OK {
		t.Errorf("a beacon that is not there: %v, %t, %v", x, is, e)
	}
	if l, is, e := Line(c, id); l.ID != 0 || len(l.Points) != 0 || is || e != api.OK {
		t.Errorf("a line that is not there: %v, %t, %v", l, is, e)
	}
	for i := range maxBeacons {
		x := changed(c, func(c *api.Chart) { c.Beacons = slices.Insert(c.Beacons, i, api.Beacon{ID: id, At: at(-7, i)}) })
		if p, is, e := Beacon(x, id); p != at(-7, i) || !is || e != api.OK {
			t.Errorf("as beacon %d: %v, %t, %v", i, p, is, e)
		}
		if l, is, e := Line(x, id); l.ID != 0 || is || e != api.OK {
			t.Errorf("as beacon %d, and as a line: %v, %t, %v", i, l, is, e)
		}
	}
	for i := range maxLines {
		x := changed(c, func(c *api.Chart) { c.Lines = slices.Insert(c.Lines, i, line) })
		if l, is, e := Line(x, id); !areSameLines(l, line) || !is || e != api.OK {
			t.Errorf("as line %d: %v, %t, %v", i, l, is, e)
		}
		if p, is, e := Beacon(x, id); p != at(0, 0) || is || e != api.OK {
			t.Errorf("as line %d, and as a beacon: %v, %t, %v", i, p, is, e)
		}
	}
}

// otherDigits returns a number with each other last digit, but not 0 for a negative one.
func otherDigits(n int) []int {
	var l []int
	digit := n % 10
	if n < 0 {
		for d := range 10 {
			if m := n - digit - d; m != n && m != 0 {
				l = append(l, m)
			}
		}
		return l
	}
	for d := range 10 {
		if d != digit {
			l = append(l, n-digit+d)
		}
	}
	return l
}

func TestP15_6_Digits(t *testing.T) {
	random := rand.New(rand.NewSource(12))
	all := []api.Chart{example(), full()}
	for range 150 {
		all = append(all, anyChart(random, 12))
	}
	count := 0
	for _, c := range all {
		d := mustDigest(t, c)
		for i, x := range namedNumbers(c) {
			for _, n := range otherDigits(*x.of(&c)) {
				other := x.set(c, n)
				if !Valid(other) {
					continue
				}
				if mustDigest(t, other) == d {
					t.Fatalf("%v: number %d, which is %d, can be %d", c, i, *x.of(&c), n)
				}
				count++
			}
		}
	}
	if count < 20000 {
		t.Errorf("only %d digits", count)
	}
}

// A cell that gets void, or is no longer, is not forgotten.
func TestP15_6_Void(t *testing.T) {
	random := rand.New(rand.NewSource(13))
	all := []api.Chart{example(), squares{1, 1, 1}.empty(0, 0), squares{40, 5, 3}.empty(-9, 9)}
	for range 100 {
		all = append(all, anyChart(random, 30))
	}
	for _, c := range all {
		seen := map[uint64]bool{mustDigest(t, c): true}
		for i := range c.Cells {
			d := mustDigest(t, changed(c, func(c *api.Chart) { c.Cells[i].Void = !c.Cells[i].Void }))
			if seen[d] {
				t.Fatalf("%v: cell %d plays no part", c, i)
			}
			seen[d] = true
		}
	}
	c := full()
	for _, i := range some(maxCells) {
		if d := mustDigest(t, changed(c, func(c *api.Chart) { c.Cells[i].Void = !c.Cells[i].Void })); d == mustDigest(t, c) {
			t.Errorf("cell %d of 4000 plays no part", i)
		}
	}
}

func TestP15_6_Integers(t *testing.T) {
	for _, c := range append(charts(), small()...) {
		if want, _ := saidDigest(c); mustDigest(t, c) != want {
			t.Errorf("%v: the digest is not %d", c, want)
		}
	}
	one := squares{1, 1, 1}.empty(3, 4)
	one.Cells[0] = cell(5, 6, 7, true)
	one.Beacons = []api.Beacon{{ID: 8, At: at(9, 10)}}
	one.Lines = []api.Line{{ID: 11, Points: []api.Point{at(12, 13), at(14, 15)}}}
	if l := integers(one); !slices.Equal(l, []int{1, 3, 4, 1, 1, 1, 1, 5, 6, 7, 1, 1, 8, 9, 10, 1, 11, 2, 12, 13, 14, 15}) {
		t.Errorf("the integers of a chart: %v", l)
	}
}

// movedBy returns a chart that was moved; its beacons and lines stay, or are moved too, as far as there are places.
func movedBy(c api.Chart, x, y int, all bool) api.Chart {
	return changed(c, func(c *api.Chart) {
		c.X, c.Y = c.X+x, c.Y+y
		move := func(p *api.Point) {
			if q := at(p.X+x, p.Y+y); all && isPlaceOfSea(q) {
				*p = q
			}
		}
		for i := range c.Beacons {
			move(&c.Beacons[i].At)
		}
		for _, l := range c.Lines {
			for i := range l.Points {
				move(&l.Points[i])
			}
		}
	})
}

func TestP15_7_Moved(t *testing.T) {
	random := rand.New(rand.NewSource(14))
	found, others := 0, 0
	for range 20000 {
		c := anyChart(random, 100)
		p, b := anyPlace(random, c), anyBox(random, c)
		x, y := somewhere(random, -maxCoord, maxCoord-c.W*c.Size+1)-c.X, somewhere(random, -maxCoord, maxCoord-c.H*c.Size+1)-c.Y
		other := movedBy(c, x, y, random.Intn(2) > 0)
		if !Valid(other) {
			continue
		}
		if q := at(p.X+x, p.Y+y); isPlaceOfSea(q) {
			i, is := mustAt(t, c, p)
			if j, isOther := mustAt(t, other, q); i != j || is != isOther {
				t.Fatalf("%v is in %d, %t, and, moved by %d, %d, in %d, %t", p, i, is, x, y, j, isOther)
			}
			if is {
				found++
			} else {
				others++
			}
		}
		if m := b.moved(x, y); isRectangleOfSea(m.lo, m.hi) && !slices.Equal(mustTouched(t, c, b), mustTouched(t, other, m)) {
			t.Fatalf("%v touches other cells when it is moved by %d, %d", b, x, y)
		}
		n := random.Intn(len(c.Cells))
		if mustSquare(t, other, n) != mustSquare(t, c, n).moved(x, y) {
			t.Fatalf("the square of %d is not moved by %d, %d", n, x, y)
		}
	}
	if found < 5000 || others < 1000 {
		t.Errorf("%d places in cells, %d in none", found, others)
	}
}

// Small charts are moved to all sides of 0, and to all corners of the sea, with all places around them.
func TestP15_7_AllPlaces(t *testing.T) {
	for _, c := range small() {
		w, h := c.W*c.Size, c.H*c.Size
		for _, x := range []int{-maxCoord, -w - 1, -w, -w + 1, -1, 0, 1, maxCoord - w + 1} {
			for _, y := range []int{-maxCoord, -h - 1, -h, -h + 1, -1, 0, 1, maxCoord - h + 1} {
				other := changed(c, func(c *api.Chart) { c.X, c.Y = x, y })
				for _, p := range near(c, 3) {
					q := at(p.X-c.X+x, p.Y-c.Y+y)
					if !isPlaceOfSea(q) {
						continue
					}
					i, is := mustAt(t, c, p)
					if j, isOther := mustAt(t, other, q); i != j || is != isOther {
						t.Fatalf("%v is in %d, %t, and %v in %d, %t", p, i, is, q, j, isOther)
					}
				}
			}
		}
	}
}

// anyNumbers returns a chart with numbers that need not be those of one, and with as many cells as it says or not.
func anyNumbers(random *rand.Rand) api.Chart {
	l := []int{math.MinInt, math.MinInt + 1, -maxDate, -maxCoord - 1, -maxCoord, -1, 0, 0, 1, 1, 2, 2, 3, 7, 64, maxCells, maxSize, maxCoord, maxCoord + 1, maxID, maxID + 1, maxDate, maxDate + 1, math.MaxInt - 1, math.MaxInt}
	number := func() int { return l[random.Intn(len(l))] }
	if random.Intn(4) == 0 {
		return api.Chart{Version: number(), X: number(), Y: number(), W: number(), H: number(), Size: number(), Cells: make([]api.Cell, random.Intn(5))}
	}
	c := anyChart(random, 6)
	if x := numbers(c); random.Intn(2) > 0 {
		*x[random.Intn(len(x))].of(&c) = number()
	}
	for range random.Intn(2) {
		c.Beacons = append(c.Beacons, api.Beacon{ID: number(), At: at(number(), number())})
	}
	for range random.Intn(2) {
		c.Lines = append(c.Lines, api.Line{ID: number(), Points: []api.Point{at(number(), number()), at(number(), number())}})
	}
	return c
}

func TestP1_AllArgumentsEnd(t *testing.T) {
	l := []int{math.MinInt, math.MinInt + 1, -maxCoord - 1, -maxCoord, -1, 0, 0, 1, 2, 3, maxCoord, maxCoord + 1, math.MaxInt - 1, math.MaxInt}
	random := rand.New(rand.NewSource(15))
	number := func() int { return l[random.Intn(len(l))] }
	right := 0
	for range 100000 {
		c := anyNumbers(random)
		if Valid(c) != isChart(c) {
			t.Fatalf("Valid(%v) is not %t", c, isChart(c))
		}
		if isChart(c) {
			right++
		}
		asWords(t, c, at(number(), number()), box{at(number(), number()), at(number(), number())}, number())
	}
	if right < 15000 || right > 85000 {
		t.Errorf("%d of 100000 charts are valid", right)
	}
}

// What is far too long is no chart, and that is said soon.
func TestP1_Largest(t *testing.T) {
	const most = 2000000
	beacons, lines, points := make([]api.Beacon, most), make([]api.Line, most), make([]api.Point, most)
	for i := range most {
		beacons[i].ID, lines[i].ID, points[i].X = 1+i%maxID, 1+i%maxID, i%2
		lines[i].Points = points[:2]
	}
	for _, change := range []func(c *api.Chart){
		func(c *api.Chart) { c.W, c.H, c.Cells = 2000, 1000, make([]api.Cell, most) },
		func(c *api.Chart) { c.Beacons = beacons },
		func(c *api.Chart) { c.Beacons = beacons[:maxID] },
		func(c *api.Chart) { c.Lines = lines },
		func(c *api.Chart) { c.Lines = lines[:maxID] },
		func(c *api.Chart) { c.Lines[0].Points = points },
	} {
		refused(t, changed(example(), change), at(0, 0), box{}, 7)
	}
}

// roomy returns a chart whose lists have other elements around them.
func roomy(c api.Chart) api.Chart {
	other := example()
	n := len(other.Cells)
	c.Cells = slices.Concat(other.Cells, c.Cells, other.Cells)[n : n+len(c.Cells)]
	n = len(other.Beacons)
	c.Beacons = slices.Concat(other.Beacons, c.Beacons, other.Beacons)[n : n+len(c.Beacons)]
	n = len(other.Lines)
	c.Lines = slices.Concat(other.Lines, c.Lines, other.Lines)[n : n+len(c.Lines)]
	for i, l := range c.Lines {
		c.Lines[i].Points = slices.Concat(other.Lines[1].Points, l.Points, other.Lines[1].Points)[4 : 4+len(l.Points)]
	}
	return c
}

// around returns a copy of a chart with all that its lists have behind them.
func around(c api.Chart) api.Chart {
	c = copied(api.Chart{Cells: c.Cells[:cap(c.Cells)], Beacons: c.Beacons[:cap(c.Beacons)], Lines: c.Lines[:cap(c.Lines)]})
	for i, l := range c.Lines {
		c.Lines[i].Points = slices.Clone(l.Points[:cap(l.Points)])
	}
	return c
}

// No state is kept, and charts stay as they are, also where there is room behind their lists.
func TestP1_ArgumentsAlone(t *testing.T) {
	random := rand.New(rand.NewSource(16))
	for range 2000 {
		c := anyChart(random, 40)
		given := roomy(c)
		before := around(given)
		x, b, n := anyPlace(random, c), anyBox(random, c), random.Intn(9)
		for range 2 {
			asWords(t, given, x, b, n)
			asWords(t, example(), at(12, 22), box{at(0, 0), at(15, 24)}, 7)
		}
		if !areSameCharts(around(given), before) || !areSameCharts(given, c) {
			t.Fatalf("%v became %v", c, given)
		}
	}
}

// Whoever changes what was returned changes neither the chart nor what is returned later.
func TestP1_ResultsAlone(t *testing.T) {
	c := example()
	for range 2 {
		l, _, _ := Line(c, 7)
		if want, _, _ := saidLine(example(), 7); !areSameLines(l, want) {
			t.Errorf("line 7: %v", l)
		}
		for i := range l.Points {
			l.Points[i] = at(99, 99)
		}
		_ = append(l.Points[:0], make([]api.Point, cap(l.Points))...)
		is := mustTouched(t, c, box{at(0, 0), at(99, 99)})
		if !slices.Equal(is, []int{0, 1, 2, 3, 4, 5}) {
			t.Errorf("touched cells: %v", is)
		}
		clear(is)
	}
	if !areSameCharts(c, example()) {
		t.Errorf("the chart became %v", c)
	}
}

// A nil list is as an empty one.
func TestP1_NoElements(t *testing.T) {
	none := squares{2, 2, 3}.empty(0, 0)
	empty := none
	empty.Beacons, empty.Lines = []api.Beacon{}, []api.Line{}
	for n := -1; n < 5; n++ {
		asWords(t, none, at(n, n), box{at(n, n), at(n, n)}, n)
		asWords(t, empty, at(n, n), box{at(n, n), at(n, n)}, n)
	}
	if mustDigest(t, none) != mustDigest(t, empty) {
		t.Error("an empty list has another digest")
	}
}

// Cells can be left at each of them.
func TestP1_CellsAreLeft(t *testing.T) {
	c := squares{4, 3, 10}.empty(0, 0)
	whole := []int{1, 2, 5, 6, 9, 10}
	for n := 1; n <= len(whole); n++ {
		var l []int
		for i := range touched(c, at(15, -5), at(25, 25)) {
			l = append(l, i)
			if len(l) == n {
				break
			}
		}
		if !slices.Equal(l, whole[:n]) {
			t.Errorf("the first %d: %v", n, l)
		}
	}
}
