package tide

import (
	"math"
	"math/rand"
	"slices"

	"landfall/api"
)

// What the tests ask for, and what the chapter says of that, computed without package tide.

const (
	maxVersion = 1000000
	maxTime    = 1000000000
	maxLasts   = 100000
	maxSlots   = 1000
	maxFlows   = 4000
	maxFlow    = 5000
	maxHeight  = 2000
	maxCoord   = 500000
	blockSize  = 10000
	slotTime   = 3600
)

// stay is a rectangle, and some time.
type stay struct {
	lo, hi      api.Point
	from, until int
}

func at(x, y int) api.Point { return api.Point{X: x, Y: y} }

func spanned(lo, hi int) api.Span { return api.Span{Lo: lo, Hi: hi} }

// flow returns a flow for a block and a slot.
func flow(x, y, slot int, u, v, height api.Span) api.Flow {
	return api.Flow{X: x, Y: y, Slot: slot, U: u, V: v, Height: height}
}

// here returns a single place, at a single time.
func here(x api.Point, time int) stay { return stay{x, x, time, time} }

func inOrder(l ...int) bool { return slices.IsSorted(l) }

// down is a divided by b, which is above 0, rounded down.
func down(a, b int) int { return (a - (a%b+b)%b) / b }

func up(a, b int) int { return -down(-a, b) }

func isSpanWithin(s, other api.Span) bool { return inOrder(other.Lo, s.Lo, s.Hi, other.Hi) }

// areWithin reports whether bounds are within others.
func areWithin(f, other api.Flow) bool {
	return isSpanWithin(f.U, other.U) && isSpanWithin(f.V, other.V) && isSpanWithin(f.Height, other.Height)
}

func areBounds(f api.Flow) bool {
	return areWithin(f, api.Flow{U: spanned(-maxFlow, maxFlow), V: spanned(-maxFlow, maxFlow), Height: spanned(-maxHeight, maxHeight)})
}

// keyOf returns the numbers by which the flows of a table rise.
func keyOf(f api.Flow) [3]int { return [3]int{f.Slot, f.Y, f.X} }

func compare(f, g api.Flow) int {
	a, b := keyOf(f), keyOf(g)
	return slices.Compare(a[:], b[:])
}

func isEdition(t api.Tide) bool {
	if len(t.Flows) > maxFlows || !areBounds(t.Rest) || keyOf(t.Rest) != [3]int{} {
		return false
	}
	ok := inOrder(1, t.Version, maxVersion) && inOrder(0, t.From, maxTime) && inOrder(0, t.Slots, maxSlots)
	for i, f := range t.Flows {
		ok = ok && areBounds(f) && inOrder(-50, f.X, 50) && inOrder(-50, f.Y, 50) && 0 <= f.Slot && f.Slot < t.Slots
		ok = ok && (i == 0 || compare(t.Flows[i-1], f) < 0)
	}
	return ok
}

func isPlaceOfSea(x api.Point) bool {
	return inOrder(-maxCoord, x.X, maxCoord) && inOrder(-maxCoord, x.Y, maxCoord)
}

// isRight reports whether a stay is a rectangle of places, and some time.
func (s stay) isRight() bool {
	return isPlaceOfSea(s.lo) && isPlaceOfSea(s.hi) && s.lo.X <= s.hi.X && s.lo.Y <= s.hi.Y && inOrder(0, s.from, s.until, maxTime)
}

// alone returns the bounds of a flow, without what they are for.
func alone(f api.Flow) api.Flow { return api.Flow{U: f.U, V: f.V, Height: f.Height} }

// holds returns what holds at a place and a time.
func holds(t api.Tide, x api.Point, time int) api.Flow {
	key := [3]int{down(time-t.From, slotTime), down(x.Y, blockSize), down(x.X, blockSize)}
	for _, f := range t.Flows {
		if keyOf(f) == key {
			return alone(f)
		}
	}
	return alone(t.Rest)
}

// has reports whether a stay has a place of a flow's block at a time of its slot.
func (s stay) has(t api.Tide, f api.Flow) bool {
	meet := func(lo, length, from, until int) bool { return lo <= until && from < lo+length }
	return meet(f.X*blockSize, blockSize, s.lo.X, s.hi.X) && meet(f.Y*blockSize, blockSize, s.lo.Y, s.hi.Y) && meet(t.From+f.Slot*slotTime, slotTime, s.from, s.until)
}

// starts returns the first one of the numbers from lo to hi, and those with which a part of the given length begins, when parts are counted from zero.
func starts(lo, hi, zero, length int) []int {
	l := []int{lo}
	for n := zero + (down(lo-zero, length)+1)*length; n <= hi; n += length {
		l = append(l, n)
	}
	return l
}

// visit shows places and times of a stay, one for each block and slot, until show returns false.
func (s stay) visit(t api.Tide, show func(x api.Point, time int) bool) {
	xs, ys := starts(s.lo.X, s.hi.X, 0, blockSize), starts(s.lo.Y, s.hi.Y, 0, blockSize)
	for time := s.from; time <= s.until; time = t.From + (down(time-t.From, slotTime)+1)*slotTime {
		for _, y := range ys {
			for _, x := range xs {
				if !show(at(x, y), time) {
					return
				}
			}
		}
	}
}

// hasOthers reports whether Rest holds at a place of a stay, at one of its times.
func (s stay) hasOthers(t api.Tide) bool {
	known := map[[3]int]bool{}
	for _, f := range t.Flows {
		known[keyOf(f)] = true
	}
	all := true
	s.visit(t, func(x api.Point, time int) bool {
		all = known[[3]int{down(time-t.From, slotTime), down(x.Y, blockSize), down(x.X, blockSize)}]
		return all
	})
	return !all
}

// least returns the least bounds that have some others, of which there is one.
func least(l []api.Flow) api.Flow {
	join := func(spanOf func(f api.Flow) api.Span) api.Span {
		s := spanned(math.MaxInt, math.MinInt)
		for _, f := range l {
			s = spanned(min(s.Lo, spanOf(f).Lo), max(s.Hi, spanOf(f).Hi))
		}
		return s
	}
	return api.Flow{U: join(ofU), V: join(ofV), Height: join(ofHeight)}
}

func ofU(f api.Flow) api.Span { return f.U }

func ofV(f api.Flow) api.Span { return f.V }

func ofHeight(f api.Flow) api.Span { return f.Height }

// saidBound returns what Bound has to return.
func saidBound(t api.Tide, s stay) (api.Flow, api.Errno) {
	if !isEdition(t) || !s.isRight() {
		return api.Flow{}, api.ErrArg
	}
	var l []api.Flow
	for _, f := range t.Flows {
		if s.has(t, f) {
			l = append(l, f)
		}
	}
	if s.hasOthers(t) {
		l = append(l, t.Rest)
	}
	return least(l), api.OK
}

// saidDrift returns what Drift has to return.
func saidDrift(t api.Tide, s stay) ([]api.Point, api.Errno) {
	f, e := saidBound(t, s)
	if e != api.OK {
		return nil, e
	}
	seconds := s.until - s.from
	if seconds > maxLasts {
		return nil, api.ErrArg
	}
	lo := at(down(f.U.Lo*seconds, 100), down(f.V.Lo*seconds, 100))
	hi := at(up(f.U.Hi*seconds, 100), up(f.V.Hi*seconds, 100))
	if !isPlaceOfSea(lo) || !isPlaceOfSea(hi) {
		return nil, api.ErrRange
	}
	return rectangle(lo, hi), api.OK
}

// rectangle returns the polygon of a rectangle.
func rectangle(lo, hi api.Point) []api.Point {
	if lo == hi {
		return []api.Point{lo}
	}
	if lo.X == hi.X || lo.Y == hi.Y {
		return []api.Point{lo, hi}
	}
	return []api.Point{lo, at(hi.X, lo.Y), hi, at(lo.X, hi.Y)}
}

// boxOf returns the least and the greatest X and Y of a polygon.
func boxOf(p []api.Point) (lo, hi api.Point) {
	lo, hi = p[0], p[0]
	for _, c := range p {
		lo, hi = at(min(lo.X, c.X), min(lo.Y, c.Y)), at(max(hi.X, c.X), max(hi.Y, c.Y))
	}
	return lo, hi
}

// example has the edition of the chapter's example.
func example() api.Tide {
	rest := spanned(-100, 100)
	return api.Tide{Version: 1, Slots: 1, Rest: api.Flow{U: rest, V: rest}, Flows: []api.Flow{flow(0, 0, 0, spanned(200, 300), api.Span{}, api.Span{})}}
}

// fastest says how fast the currents of an edition that is made at random can be.
type fastest int

// bounds returns narrow bounds, so that most joined ones are given by two of them.
func (most fastest) bounds(random *rand.Rand) api.Flow {
	narrow := func(most int) api.Span {
		lo := random.Intn(2*most+1) - most
		return spanned(lo, min(most, lo+random.Intn(most/50+1)))
	}
	return api.Flow{U: narrow(int(most)), V: narrow(int(most)), Height: narrow(maxHeight)}
}

// edition returns an edition with flows in some of these blocks and slots, so many of a hundred.
func (most fastest) edition(random *rand.Rand, from, slots int, xs, ys, of []int, share int) api.Tide {
	t := api.Tide{Version: 1 + random.Intn(maxVersion), From: from, Slots: slots, Rest: most.bounds(random)}
	for _, slot := range of {
		for _, y := range ys {
			for _, x := range xs {
				if f := most.bounds(random); random.Intn(100) < share {
					t.Flows = append(t.Flows, flow(x, y, slot, f.U, f.V, f.Height))
				}
			}
		}
	}
	return t
}

// scattered returns an edition with flows anywhere in the sea.
func (most fastest) scattered(random *rand.Rand, n int) api.Tide {
	t := most.edition(random, random.Intn(maxTime), 30, nil, nil, nil, 0)
	for range n {
		f := most.bounds(random)
		t.Flows = append(t.Flows, flow(random.Intn(101)-50, random.Intn(101)-50, random.Intn(30), f.U, f.V, f.Height))
	}
	slices.SortFunc(t.Flows, compare)
	t.Flows = slices.CompactFunc(t.Flows, func(f, g api.Flow) bool { return keyOf(f) == keyOf(g) })
	return t
}

// upTo has the numbers from lo to hi.
func upTo(lo, hi int) []int {
	var l []int
	for n := lo; n <= hi; n++ {
		l = append(l, n)
	}
	return l
}

// editions has editions without flows, with few, and with as many as there can be: in all blocks of a part of the sea, in some, and in the outermost ones.
func editions() []api.Tide {
	random := rand.New(rand.NewSource(1))
	fast, slow := fastest(maxFlow), fastest(60)
	edge := []int{-50, -49, 49, 50}
	l := []api.Tide{
		example(),
		fast.edition(random, 0, 0, nil, nil, nil, 0),
		slow.edition(random, 5000, maxSlots, nil, nil, nil, 0),
		fast.edition(random, 7200, 4, upTo(-2, 2), upTo(-2, 2), upTo(0, 3), 100),
		slow.edition(random, 7200, 4, upTo(-2, 2), upTo(-2, 2), upTo(0, 3), 100),
		slow.edition(random, 0, 6, edge, edge, upTo(0, 5), 80),
		fast.edition(random, maxTime-500*slotTime, maxSlots, edge, edge, []int{0, 1, 499, 500, 998, 999}, 60),
		fast.edition(random, maxTime, 2, upTo(-1, 0), upTo(-1, 0), upTo(0, 1), 100),
		slow.edition(random, 1234567, maxSlots, upTo(-1, 0), upTo(-1, 0), upTo(0, maxSlots-1), 100),
		slow.edition(random, 99, 2, upTo(-50, 50), upTo(-50, -12), []int{1}, 100),
		fast.edition(random, 500000000, 3, upTo(-50, 50), []int{-50, 0, 50}, upTo(0, 2), 100),
		slow.scattered(random, 3000),
		fast.scattered(random, 200),
	}
	for range 12 {
		l = append(l, slow.edition(random, random.Intn(100000), 4+random.Intn(3), upTo(-2, 2), upTo(-2, 2), upTo(0, 3), 20+random.Intn(80)))
		l = append(l, fast.edition(random, random.Intn(100000), 3, upTo(-1, 1), upTo(-1, 1), upTo(0, 2), 20+random.Intn(80)))
	}
	return l
}

// pick returns a number from lo to hi: one of the list, or one next to it, or any.
func pick(random *rand.Rand, l []int, lo, hi int) int {
	n := lo + random.Intn(hi-lo+1)
	if len(l) > 0 && random.Intn(8) > 0 {
		n = l[random.Intn(len(l))] + random.Intn(3) - 1
	}
	return max(lo, min(n, hi))
}

// stays has stays whose ends are mostly next to those of an edition's blocks and slots, on both sides of them; half of them are short.
func stays(random *rand.Rand, t api.Tide, n int) []stay {
	xs, ys, times := []int{-maxCoord, 0, maxCoord}, []int{-maxCoord, 0, maxCoord}, []int{0, t.From, t.From + t.Slots*slotTime, maxTime}
	for range min(len(t.Flows), 60) {
		f := t.Flows[random.Intn(len(t.Flows))]
		xs = append(xs, f.X*blockSize, (f.X+1)*blockSize)
		ys = append(ys, f.Y*blockSize, (f.Y+1)*blockSize)
		times = append(times, t.From+f.Slot*slotTime, t.From+(f.Slot+1)*slotTime)
	}
	ends := func(l []int, lo, hi, near int) (from, until int) {
		from, until = pick(random, l, lo, hi), pick(random, l, lo, hi)
		if random.Intn(2) > 0 {
			until = min(hi, from+random.Intn(near))
		}
		return min(from, until), max(from, until)
	}
	all := make([]stay, n)
	for i := range all {
		s := &all[i]
		s.lo.X, s.hi.X = ends(xs, -maxCoord, maxCoord, 2*blockSize)
		s.lo.Y, s.hi.Y = ends(ys, -maxCoord, maxCoord, 2*blockSize)
		s.from, s.until = ends(times, 0, maxTime, 2*slotTime)
	}
	return all
}

// shorter returns a stay that lasts so long that there can be a drift, and begins no earlier.
func (s stay) shorter(random *rand.Rand) stay {
	s.until = min(s.until, s.from+random.Intn(maxLasts+1))
	return s
}

// part returns a stay in this one: a lesser rectangle, and a lesser time.
func (s stay) part(random *rand.Rand) stay {
	within := func(lo, hi int) (int, int) {
		a, b := lo+random.Intn(hi-lo+1), lo+random.Intn(hi-lo+1)
		if random.Intn(3) == 0 {
			a = lo
		}
		if random.Intn(3) == 0 {
			b = hi
		}
		return min(a, b), max(a, b)
	}
	s.lo.X, s.hi.X = within(s.lo.X, s.hi.X)
	s.lo.Y, s.hi.Y = within(s.lo.Y, s.hi.Y)
	s.from, s.until = within(s.from, s.until)
	return s
}

// outside has numbers that are not from lo to hi.
func outside(lo, hi int) []int {
	return []int{lo - 1, hi + 1, lo - 10000, hi + 10000, math.MinInt, math.MinInt + 1, math.MaxInt - 1, math.MaxInt, 1 << 32, -1 << 32}
}

// wrongStays has stays that are none: with one number that is wrong, or with the ends in the wrong order.
func wrongStays() []stay {
	var l []stay
	for _, s := range []stay{{}, {at(-5, -6), at(7, 8), 9, 10}, {at(-maxCoord, -maxCoord), at(maxCoord, maxCoord), 0, maxTime}, here(at(maxCoord, -maxCoord), maxTime), here(at(-maxCoord, maxCoord), 0)} {
		for _, c := range []struct {
			set    func(s *stay, n int)
			lo, hi int
		}{
			{func(s *stay, n int) { s.lo.X = n }, -maxCoord, s.hi.X}, {func(s *stay, n int) { s.hi.X = n }, s.lo.X, maxCoord},
			{func(s *stay, n int) { s.lo.Y = n }, -maxCoord, s.hi.Y}, {func(s *stay, n int) { s.hi.Y = n }, s.lo.Y, maxCoord},
			{func(s *stay, n int) { s.from = n }, 0, s.until}, {func(s *stay, n int) { s.until = n }, s.from, maxTime},
			{func(s *stay, n int) { s.lo.X, s.hi.X = n, n }, -maxCoord, maxCoord}, {func(s *stay, n int) { s.lo.Y, s.hi.Y = n, n }, -maxCoord, maxCoord},
			{func(s *stay, n int) { s.from, s.until = n, n }, 0, maxTime},
		} {
			for _, n := range outside(c.lo, c.hi) {
				wrong := s
				c.set(&wrong, n)
				l = append(l, wrong)
			}
		}
	}
	return l
}

// wrongEditions has editions that are none, each one made by one change of a right one.
func wrongEditions() []api.Tide {
	var l []api.Tide
	for _, c := range numbers() {
		for _, t := range bases() {
			for _, n := range outside(c.limits(t)) {
				wrong := changed(t, func(t *api.Tide) { c.set(t, n) })
				l = append(l, wrong)
			}
		}
	}
	return l
}

// bases has editions to be made wrong: their flows rise by Slot only.
func bases() []api.Tide {
	wide, high := spanned(-maxFlow, maxFlow), spanned(-maxHeight, maxHeight)
	return []api.Tide{
		{Version: 1, Slots: 3, Flows: []api.Flow{flow(0, 0, 0, api.Span{}, api.Span{}, api.Span{}), flow(0, 0, 1, api.Span{}, api.Span{}, api.Span{}), flow(0, 0, 2, api.Span{}, api.Span{}, api.Span{})}},
		{Version: maxVersion, From: maxTime, Slots: maxSlots, Rest: api.Flow{U: wide, V: wide, Height: high}, Flows: []api.Flow{flow(50, 50, 0, wide, wide, high), flow(-50, -50, 999, wide, wide, high)}},
	}
}

// number is a number of an edition, with the limits within which it is right as long as all others stay.
type number struct {
	set    func(t *api.Tide, n int)
	limits func(t api.Tide) (lo, hi int)
}

// numbers has all numbers of an edition but the slots; flows stand for themselves by the first and the last one.
func numbers() []number {
	fixed := func(lo, hi int) func(api.Tide) (int, int) { return func(api.Tide) (int, int) { return lo, hi } }
	l := []number{
		{func(t *api.Tide, n int) { t.Version = n }, fixed(1, maxVersion)},
		{func(t *api.Tide, n int) { t.From = n }, fixed(0, maxTime)},
		{func(t *api.Tide, n int) { t.Slots = n }, func(t api.Tide) (int, int) { return t.Flows[len(t.Flows)-1].Slot + 1, maxSlots }},
		{func(t *api.Tide, n int) { t.Rest.X = n }, fixed(0, 0)}, {func(t *api.Tide, n int) { t.Rest.Y = n }, fixed(0, 0)}, {func(t *api.Tide, n int) { t.Rest.Slot = n }, fixed(0, 0)},
	}
	for _, flowOf := range []func(t *api.Tide) *api.Flow{
		func(t *api.Tide) *api.Flow { return &t.Rest },
		func(t *api.Tide) *api.Flow { return &t.Flows[0] },
		func(t *api.Tide) *api.Flow { return &t.Flows[len(t.Flows)-1] },
	} {
		for i, spanOf := range []func(f *api.Flow) *api.Span{func(f *api.Flow) *api.Span { return &f.U }, func(f *api.Flow) *api.Span { return &f.V }, func(f *api.Flow) *api.Span { return &f.Height }} {
			most := []int{maxFlow, maxFlow, maxHeight}[i]
			l = append(l, number{func(t *api.Tide, n int) { spanOf(flowOf(t)).Lo = n }, func(t api.Tide) (int, int) { return -most, spanOf(flowOf(&t)).Hi }})
			l = append(l, number{func(t *api.Tide, n int) { spanOf(flowOf(t)).Hi = n }, func(t api.Tide) (int, int) { return spanOf(flowOf(&t)).Lo, most }})
		}
	}
	for _, i := range []int{0, 1} {
		l = append(l, number{func(t *api.Tide, n int) { t.Flows[i].X = n }, fixed(-50, 50)}, number{func(t *api.Tide, n int) { t.Flows[i].Y = n }, fixed(-50, 50)})
	}
	l = append(l, number{func(t *api.Tide, n int) { t.Flows[0].Slot = n }, func(t api.Tide) (int, int) { return 0, t.Flows[1].Slot - 1 }})
	return append(l, number{func(t *api.Tide, n int) { t.Flows[len(t.Flows)-1].Slot = n }, func(t api.Tide) (int, int) { return t.Flows[len(t.Flows)-2].Slot + 1, t.Slots - 1 }})
}

// changed returns an edition that was changed, and leaves it as it is.
func changed(t api.Tide, change func(t *api.Tide)) api.Tide {
	t.Flows = slices.Clone(t.Flows)
	change(&t)
	return t
}
