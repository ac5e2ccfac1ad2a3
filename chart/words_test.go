package chart

import (
	"math"
	"math/rand"
	"slices"

	"landfall/api"
	"landfall/digest"
)

// What the tests ask for, and what the chapter says of that, computed without package chart.

const (
	maxID      = 1000000
	maxCells   = 4000
	maxSize    = 10000
	maxCoord   = 500000
	maxDepth   = 100000
	maxDate    = 1000000000
	maxBeacons = 100
	maxLines   = 50
	maxPoints  = 64
)

func at(x, y int) api.Point { return api.Point{X: x, Y: y} }

func cell(lo, hi, date int, void bool) api.Cell {
	return api.Cell{Depth: api.Span{Lo: lo, Hi: hi}, Date: date, Void: void}
}

func inOrder(l ...int) bool { return slices.IsSorted(l) }

func isPlaceOfSea(x api.Point) bool {
	return inOrder(-maxCoord, x.X, maxCoord) && inOrder(-maxCoord, x.Y, maxCoord)
}

func isRectangleOfSea(lo, hi api.Point) bool {
	return isPlaceOfSea(lo) && isPlaceOfSea(hi) && inOrder(lo.X, hi.X) && inOrder(lo.Y, hi.Y)
}

func fitsTheSea(c api.Chart) bool {
	return inOrder(1, c.Size, maxSize) && inOrder(1, c.W, maxCells) && inOrder(1, c.H, maxCells) && inOrder(c.W*c.H, maxCells) && c.W*c.H == len(c.Cells) &&
		isPlaceOfSea(at(c.X, c.Y)) && isPlaceOfSea(at(c.X+c.W*c.Size-1, c.Y+c.H*c.Size-1))
}

func areIDs(l []int) bool {
	slices.Sort(l)
	return len(l) == 0 || l[0] >= 1 && l[len(l)-1] <= maxID && len(slices.Compact(slices.Clone(l))) == len(l)
}

func beaconIDs(c api.Chart) (l []int) {
	for _, b := range c.Beacons {
		l = append(l, b.ID)
	}
	return l
}

func lineIDs(c api.Chart) (l []int) {
	for _, x := range c.Lines {
		l = append(l, x.ID)
	}
	return l
}

func isLineOfSea(l []api.Point) bool {
	if len(l) < 2 || len(l) > maxPoints || !isPlaceOfSea(l[0]) {
		return false
	}
	for i := 1; i < len(l); i++ {
		if !isPlaceOfSea(l[i]) || l[i] == l[i-1] {
			return false
		}
	}
	return true
}

func isChart(c api.Chart) bool {
	if !inOrder(1, c.Version, maxID) || !fitsTheSea(c) || len(c.Beacons) > maxBeacons || len(c.Lines) > maxLines || !areIDs(beaconIDs(c)) || !areIDs(lineIDs(c)) {
		return false
	}
	for _, x := range c.Cells {
		if !inOrder(-maxDepth, x.Depth.Lo, x.Depth.Hi, maxDepth) || !inOrder(0, x.Date, maxDate) {
			return false
		}
	}
	for _, b := range c.Beacons {
		if !isPlaceOfSea(b.At) {
			return false
		}
	}
	for _, l := range c.Lines {
		if !isLineOfSea(l.Points) {
			return false
		}
	}
	return true
}

// box is a rectangle of places.
type box struct{ lo, hi api.Point }

func (b box) has(x api.Point) bool {
	return inOrder(b.lo.X, x.X, b.hi.X) && inOrder(b.lo.Y, x.Y, b.hi.Y)
}

func (b box) meets(other box) bool {
	return max(b.lo.X, other.lo.X) <= min(b.hi.X, other.hi.X) && max(b.lo.Y, other.lo.Y) <= min(b.hi.Y, other.hi.Y)
}

func (b box) moved(x, y int) box { return box{at(b.lo.X+x, b.lo.Y+y), at(b.hi.X+x, b.hi.Y+y)} }

// corners has the corners of a rectangle.
func (b box) corners() []api.Point {
	return []api.Point{b.lo, at(b.hi.X, b.lo.Y), b.hi, at(b.lo.X, b.hi.Y)}
}

// boxes has the squares of a chart, one cell after the other: along a row, and then along the next one.
func boxes(c api.Chart) []box {
	var l []box
	for y := c.Y; y < c.Y+c.H*c.Size; y += c.Size {
		for x := c.X; x < c.X+c.W*c.Size; x += c.Size {
			l = append(l, box{at(x, y), at(x+c.Size-1, y+c.Size-1)})
		}
	}
	return l
}

func whole(c api.Chart) box { return box{at(c.X, c.Y), at(c.X+c.W*c.Size-1, c.Y+c.H*c.Size-1)} }

func saidAt(c api.Chart, x api.Point) (int, bool, api.Errno) {
	if !isChart(c) || !isPlaceOfSea(x) {
		return 0, false, api.ErrArg
	}
	i := slices.IndexFunc(boxes(c), func(b box) bool { return b.has(x) })
	return max(i, 0), i >= 0, api.OK
}

func saidSquare(c api.Chart, i int) (lo, hi api.Point, e api.Errno) {
	if !isChart(c) || i < 0 || i >= len(c.Cells) {
		return api.Point{}, api.Point{}, api.ErrArg
	}
	b := boxes(c)[i]
	return b.lo, b.hi, api.OK
}

func saidTouched(c api.Chart, lo, hi api.Point) ([]int, api.Errno) {
	if !isChart(c) || !isRectangleOfSea(lo, hi) {
		return nil, api.ErrArg
	}
	return meeting(boxes(c), box{lo, hi}), api.OK
}

// meeting has the indexes of the rectangles that meet another one.
func meeting(l []box, other box) []int {
	var is []int
	for i, b := range l {
		if b.meets(other) {
			is = append(is, i)
		}
	}
	return is
}

func saidBeacon(c api.Chart, id int) (api.Point, bool, api.Errno) {
	if !isChart(c) {
		return api.Point{}, false, api.ErrArg
	}
	for _, b := range c.Beacons {
		if b.ID == id {
			return b.At, true, api.OK
		}
	}
	return api.Point{}, false, api.OK
}

func saidLine(c api.Chart, id int) (api.Line, bool, api.Errno) {
	if !isChart(c) {
		return api.Line{}, false, api.ErrArg
	}
	for _, l := range c.Lines {
		if l.ID == id {
			return l, true, api.OK
		}
	}
	return api.Line{}, false, api.OK
}

func areSameLines(a, b api.Line) bool { return a.ID == b.ID && slices.Equal(a.Points, b.Points) }

func areSameCharts(a, b api.Chart) bool {
	return a.Version == b.Version && a.X == b.X && a.Y == b.Y && a.W == b.W && a.H == b.H && a.Size == b.Size &&
		slices.Equal(a.Cells, b.Cells) && slices.Equal(a.Beacons, b.Beacons) && slices.EqualFunc(a.Lines, b.Lines, areSameLines)
}

func saidDigest(c api.Chart) (uint64, api.Errno) {
	if !isChart(c) {
		return 0, api.ErrArg
	}
	l := []int{c.Version, c.X, c.Y, c.W, c.H, c.Size, c.W * c.H}
	for _, x := range c.Cells {
		l = append(l, x.Depth.Lo, x.Depth.Hi, x.Date, map[bool]int{true: 1}[x.Void])
	}
	l = append(l, len(c.Beacons))
	for _, b := range c.Beacons {
		l = append(l, b.ID, b.At.X, b.At.Y)
	}
	l = append(l, len(c.Lines))
	for _, x := range c.Lines {
		l = append(l, x.ID, len(x.Points))
		for _, p := range x.Points {
			l = append(l, p.X, p.Y)
		}
	}
	return digest.Sum(l...), api.OK
}

// example has the cells of the chapter's chart; each number of it is another one.
func example() api.Chart {
	return api.Chart{
		Version: 4, X: 10, Y: 20, W: 3, H: 2, Size: 5,
		Cells:   []api.Cell{cell(-100, 200, 31, false), cell(-3, 40, 55, true), cell(7, 7, 0, false), cell(-90, -80, 999, true), cell(0, 0, 12345, false), cell(600, 701, 8, false)},
		Beacons: []api.Beacon{{ID: 7, At: at(1, 2)}, {ID: 3, At: at(-56, 61)}, {ID: 999, At: at(-4000, -17)}},
		Lines:   []api.Line{{ID: 8, Points: []api.Point{at(11, 12), at(13, 14)}}, {ID: 7, Points: []api.Point{at(-21, 22), at(-23, -24), at(25, -26), at(-21, 22)}}},
	}
}

// full has as many beacons, lines and places of lines as there can be, and numbers at their limits.
func full() api.Chart {
	c := api.Chart{Version: maxID, X: -maxCoord, Y: -maxCoord, W: 100, H: 40, Size: maxSize}
	for i := range maxCells {
		c.Cells = append(c.Cells, cell(-maxDepth+i%3, maxDepth-i%7, maxDate-i, i%2 > 0))
	}
	for i := range maxBeacons {
		c.Beacons = append(c.Beacons, api.Beacon{ID: maxID - i, At: at(maxCoord-i, i-maxCoord)})
	}
	for i := range maxLines {
		l := api.Line{ID: 1 + 20000*i}
		for j := range maxPoints {
			l.Points = append(l.Points, at(maxCoord*(1-j%2*2), maxCoord-i))
		}
		c.Lines = append(c.Lines, l)
	}
	return c
}

// squares is how many columns, rows and places along a side the squares of a chart have.
type squares struct{ w, h, size int }

// empty returns a chart from a place on without beacons and lines, of which nothing is known.
func (s squares) empty(x, y int) api.Chart {
	return api.Chart{Version: 1, X: x, Y: y, W: s.w, H: s.h, Size: s.size, Cells: make([]api.Cell, s.w*s.h)}
}

// charts has charts of all shapes, with squares of all sizes, in the middle of the sea and at all of its sides.
func charts() []api.Chart {
	l := []api.Chart{example(), full()}
	for _, s := range []squares{{1, 1, 1}, {1, 1, 2}, {1, 1, maxSize}, {2, 1, 1}, {1, 2, 1}, {2, 3, 1}, {3, 2, 2}, {4, 5, 3}, {7, 3, 10}, {5, 8, 1000}, {100, 1, maxSize}, {1, 100, maxSize}, {maxCells, 1, 250}, {1, maxCells, 250}, {63, 63, 7}, {80, 50, 100}, {40, 100, maxSize}} {
		w, h := s.w*s.size, s.h*s.size
		for _, x := range []int{-maxCoord, -w / 2, 0, maxCoord - w + 1} {
			for _, y := range []int{-maxCoord, -h / 2, 0, maxCoord - h + 1} {
				if c := s.empty(x, y); fitsTheSea(c) && (len(c.Cells) < 100 || x == y || y == 0) {
					l = append(l, c)
				}
			}
		}
	}
	return l
}

// small has charts with so few places that all of them, and all rectangles around them, can be gone through.
func small() []api.Chart {
	return []api.Chart{squares{1, 1, 1}.empty(0, 0), squares{1, 1, 3}.empty(-1, -1), squares{3, 1, 1}.empty(-2, 5), squares{1, 3, 2}.empty(0, -3), squares{2, 2, 2}.empty(-2, -2), squares{3, 2, 2}.empty(-3, 7), squares{2, 3, 3}.empty(-7, -9), squares{4, 3, 1}.empty(100, -1)}
}

// near has all places in the rectangle of a chart, and up to so many places beside it.
func near(c api.Chart, beside int) []api.Point {
	var l []api.Point
	b := whole(c)
	for y := b.lo.Y - beside; y <= b.hi.Y+beside; y++ {
		for x := b.lo.X - beside; x <= b.hi.X+beside; x++ {
			l = append(l, at(x, y))
		}
	}
	return l
}

// somewhere returns an integer from lo to hi, often one near an end.
func somewhere(random *rand.Rand, lo, hi int) int {
	n := min(random.Intn(4), hi-lo)
	switch random.Intn(5) {
	case 0:
		return lo + n
	case 1:
		return hi - n
	}
	return lo + random.Intn(hi-lo+1)
}

// along returns a coordinate that is mostly near an end of one of n squares that stand in line from another one on.
func along(random *rand.Rand, from, size, n int) int {
	x := from + random.Intn(n+1)*size + random.Intn(3) - 1
	switch random.Intn(8) {
	case 0:
		x = random.Intn(2*maxCoord+1) - maxCoord
	case 1:
		x = from - size + random.Intn((n+2)*size)
	}
	return min(max(x, -maxCoord), maxCoord)
}

// anyPlace returns a place, mostly one near a side of a square.
func anyPlace(random *rand.Rand, c api.Chart) api.Point {
	return at(along(random, c.X, c.Size, c.W), along(random, c.Y, c.Size, c.H))
}

// anyBox returns a rectangle, mostly one with sides near those of squares.
func anyBox(random *rand.Rand, c api.Chart) box {
	a, b := anyPlace(random, c), anyPlace(random, c)
	if random.Intn(3) == 0 {
		b = at(min(a.X+random.Intn(3*c.Size), maxCoord), min(a.Y+random.Intn(3*c.Size), maxCoord))
	}
	return box{at(min(a.X, b.X), min(a.Y, b.Y)), at(max(a.X, b.X), max(a.Y, b.Y))}
}

// anyCell returns a cell with numbers of any size.
func anyCell(random *rand.Rand) api.Cell {
	lo := somewhere(random, -maxDepth, maxDepth)
	return cell(lo, somewhere(random, lo, maxDepth), somewhere(random, 0, maxDate), random.Intn(2) > 0)
}

// anyIDs returns different IDs in any order.
func anyIDs(random *rand.Rand, n int) []int {
	is := map[int]bool{}
	var l []int
	for len(l) < n {
		id := somewhere(random, 1, maxID)
		if random.Intn(2) > 0 {
			id = 1 + random.Intn(2*n)
		}
		if !is[id] {
			is[id] = true
			l = append(l, id)
		}
	}
	return l
}

func anyPlaceOfSea(random *rand.Rand) api.Point {
	return at(somewhere(random, -maxCoord, maxCoord), somewhere(random, -maxCoord, maxCoord))
}

// anyLine returns different places, mostly near each other.
func anyLine(random *rand.Rand, n int) []api.Point {
	l := []api.Point{anyPlaceOfSea(random)}
	for len(l) < n {
		x := anyPlaceOfSea(random)
		if before := l[len(l)-1]; random.Intn(2) > 0 {
			x = at(before.X+random.Intn(3)-1, before.Y+random.Intn(3)-1)
		}
		if isPlaceOfSea(x) && x != l[len(l)-1] {
			l = append(l, x)
		}
	}
	return l
}

// anyChart returns a chart with up to so many cells, and with beacons and lines.
func anyChart(random *rand.Rand, most int) api.Chart {
	w := 1 + random.Intn(most)
	h := 1 + random.Intn(most/w)
	if random.Intn(2) > 0 {
		w, h = h, w
	}
	size := somewhere(random, 1, min(maxSize, (2*maxCoord+1)/max(w, h)))
	c := squares{w, h, size}.empty(somewhere(random, -maxCoord, maxCoord-w*size+1), somewhere(random, -maxCoord, maxCoord-h*size+1))
	c.Version = somewhere(random, 1, maxID)
	for i := range c.Cells {
		c.Cells[i] = anyCell(random)
	}
	for _, id := range anyIDs(random, random.Intn(8)) {
		c.Beacons = append(c.Beacons, api.Beacon{ID: id, At: anyPlaceOfSea(random)})
	}
	for _, id := range anyIDs(random, random.Intn(6)) {
		c.Lines = append(c.Lines, api.Line{ID: id, Points: anyLine(random, 2+random.Intn(5))})
	}
	return c
}

// copied returns a chart that shares no memory with another one.
func copied(c api.Chart) api.Chart {
	c.Cells, c.Beacons, c.Lines = slices.Clone(c.Cells), slices.Clone(c.Beacons), slices.Clone(c.Lines)
	for i := range c.Lines {
		c.Lines[i].Points = slices.Clone(c.Lines[i].Points)
	}
	return c
}

// changed returns a chart that was changed, and leaves it as it is.
func changed(c api.Chart, change func(c *api.Chart)) api.Chart {
	c = copied(c)
	change(&c)
	return c
}

// number is a number of a chart, with its limits as long as all others stay, and with those between them that it cannot be.
type number struct {
	of     func(c *api.Chart) *int
	lo, hi int
	taken  []int
}

func (x number) set(c api.Chart, n int) api.Chart {
	return changed(c, func(c *api.Chart) { *x.of(c) = n })
}

// headNumbers has the numbers of a chart that stand before its cells.
func headNumbers(c api.Chart) []number {
	most := min(maxSize, (maxCoord+1-c.X)/c.W, (maxCoord+1-c.Y)/c.H)
	return []number{
		{func(c *api.Chart) *int { return &c.Version }, 1, maxID, nil},
		{func(c *api.Chart) *int { return &c.X }, -maxCoord, maxCoord + 1 - c.W*c.Size, nil},
		{func(c *api.Chart) *int { return &c.Y }, -maxCoord, maxCoord + 1 - c.H*c.Size, nil},
		{func(c *api.Chart) *int { return &c.W }, c.W, c.W, nil},
		{func(c *api.Chart) *int { return &c.H }, c.H, c.H, nil},
		{func(c *api.Chart) *int { return &c.Size }, 1, most, nil},
	}
}

func cellNumbers(c api.Chart, i int) []number {
	return []number{
		{func(c *api.Chart) *int { return &c.Cells[i].Depth.Lo }, -maxDepth, c.Cells[i].Depth.Hi, nil},
		{func(c *api.Chart) *int { return &c.Cells[i].Depth.Hi }, c.Cells[i].Depth.Lo, maxDepth, nil},
		{func(c *api.Chart) *int { return &c.Cells[i].Date }, 0, maxDate, nil},
	}
}

// others returns a list without an element.
func others(l []int, i int) []int { return slices.Delete(slices.Clone(l), i, i+1) }

func beaconNumbers(c api.Chart, i int) []number {
	return []number{
		{func(c *api.Chart) *int { return &c.Beacons[i].ID }, 1, maxID, others(beaconIDs(c), i)},
		{func(c *api.Chart) *int { return &c.Beacons[i].At.X }, -maxCoord, maxCoord, nil},
		{func(c *api.Chart) *int { return &c.Beacons[i].At.Y }, -maxCoord, maxCoord, nil},
	}
}

// lineNumbers has the ID of a line, and both coordinates of one of its places: this one must be no neighbour of it.
func lineNumbers(c api.Chart, i, j int) []number {
	var takenX, takenY []int
	l := c.Lines[i].Points
	for k, x := range l {
		if (k == j-1 || k == j+1) && x.Y == l[j].Y {
			takenX = append(takenX, x.X)
		}
		if (k == j-1 || k == j+1) && x.X == l[j].X {
			takenY = append(takenY, x.Y)
		}
	}
	return []number{
		{func(c *api.Chart) *int { return &c.Lines[i].ID }, 1, maxID, others(lineIDs(c), i)},
		{func(c *api.Chart) *int { return &c.Lines[i].Points[j].X }, -maxCoord, maxCoord, takenX},
		{func(c *api.Chart) *int { return &c.Lines[i].Points[j].Y }, -maxCoord, maxCoord, takenY},
	}
}

// some returns all indexes of a list of up to 15 elements, and those of a few elements of a longer one, both ends among them.
func some(n int) []int {
	var l []int
	for i := 0; i < n; i += max(1, n/8) {
		l = append(l, i)
	}
	if n > 0 && l[len(l)-1] != n-1 {
		l = append(l, n-1)
	}
	return l
}

// numbers has the numbers of a chart; those of long lists of it stand for themselves by some of them.
func numbers(c api.Chart) []number { return append(headNumbers(c), namedNumbers(c)...) }

// namedNumbers has those numbers of which P15.6 speaks.
func namedNumbers(c api.Chart) []number {
	var l []number
	for _, i := range some(len(c.Cells)) {
		l = append(l, cellNumbers(c, i)...)
	}
	for _, i := range some(len(c.Beacons)) {
		l = append(l, beaconNumbers(c, i)...)
	}
	for _, i := range some(len(c.Lines)) {
		for _, j := range some(len(c.Lines[i].Points)) {
			l = append(l, lineNumbers(c, i, j)...)
		}
	}
	return l
}

// outside returns integers beyond limits, the nearest ones among them.
func outside(lo, hi int) []int {
	return []int{math.MinInt, math.MinInt + 1, lo - 1000, lo - 1, hi + 1, hi + 1000, math.MaxInt - 1, math.MaxInt}
}

func outsideThePlaces() []api.Point {
	var l []api.Point
	for _, n := range outside(-maxCoord, maxCoord) {
		l = append(l, at(n, 0), at(0, n), at(n, n))
	}
	return l
}

// wrongCharts has charts that are wrong in a single thing.
func wrongCharts() []api.Chart {
	var l []api.Chart
	c := example()
	for _, x := range numbers(c) {
		for _, n := range append(outside(x.lo, x.hi), x.taken...) {
			l = append(l, x.set(c, n))
		}
	}
	for _, change := range []func(c *api.Chart){
		func(c *api.Chart) { c.Cells = c.Cells[:5] },
		func(c *api.Chart) { c.Cells = append(c.Cells, cell(0, 0, 0, false)) },
		func(c *api.Chart) { c.Cells = nil },
		func(c *api.Chart) { c.W, c.H, c.Cells = 0, 0, nil },
		func(c *api.Chart) { c.W, c.H = -3, -2 },
		func(c *api.Chart) { c.W, c.H, c.Cells = maxCells+1, 1, make([]api.Cell, maxCells+1) },
		func(c *api.Chart) { c.Lines[0].Points = nil },
		func(c *api.Chart) { c.Lines[0].Points = c.Lines[0].Points[:1] },
		func(c *api.Chart) { c.Lines[1].Points[3] = c.Lines[1].Points[2] },
		func(c *api.Chart) { c.Lines[1].Points = anyLine(rand.New(rand.NewSource(1)), maxPoints+1) },
		func(c *api.Chart) { c.Beacons = append(c.Beacons, c.Beacons[0]) },
		func(c *api.Chart) { c.Lines = append(c.Lines, c.Lines[1]) },
		func(c *api.Chart) { *c = api.Chart{} },
	} {
		l = append(l, changed(c, change))
	}
	return l
}
