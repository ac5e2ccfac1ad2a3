package clock

import (
	"math"
	"math/rand"
	"slices"

	"landfall/api"
)

// What the tests ask for, and what the chapter says of that, computed without package clock.

const (
	maxTime   = 1000000000
	maxOffset = 1000000
	maxDrift  = 1000
	maxSpan   = 1000000000000
	// micro is a millisecond in the millionths of one in which the tests know what true time really is.
	micro = 1000000
)

func spanned(lo, hi int) api.Span { return api.Span{Lo: lo, Hi: hi} }

func clockOf(at, lo, hi, drift int) api.Clock {
	return api.Clock{At: at, Offset: spanned(lo, hi), Drift: drift}
}

// example is the clock of the chapter.
func example() api.Clock { return clockOf(1000, -5, 5, 100) }

func inOrder(l ...int) bool { return slices.IsSorted(l) }

func isSpan(s api.Span) bool { return inOrder(-maxSpan, s.Lo, s.Hi, maxSpan) }

func isSpanWithin(s, other api.Span) bool { return inOrder(other.Lo, s.Lo, s.Hi, other.Hi) }

func has(s api.Span, n int) bool { return inOrder(s.Lo, n, s.Hi) }

func isReading(n int) bool { return inOrder(0, n, maxTime) }

func isClock(c api.Clock) bool {
	return isReading(c.At) && inOrder(-maxOffset, c.Offset.Lo, c.Offset.Hi, maxOffset) && inOrder(0, c.Drift, maxDrift)
}

func apart(a, b int) int {
	if a < b {
		return b - a
	}
	return a - b
}

// really returns how far, in millionths of a millisecond, a clock can go wrong up to a reading.
func really(c api.Clock, reading int) int { return c.Drift * apart(reading, c.At) }

// goesWrong returns the least number of milliseconds that is at least what a clock really can go wrong.
func goesWrong(c api.Clock, reading int) int {
	n := really(c, reading) / micro
	if n*micro < really(c, reading) {
		n++
	}
	return n
}

// holds returns the span of the true time at a reading.
func holds(c api.Clock, reading int) api.Span {
	n := goesWrong(c, reading)
	return spanned(reading+c.Offset.Lo-n, reading+c.Offset.Hi+n)
}

func saidTrue(c api.Clock, reading int) (api.Span, api.Errno) {
	if !isClock(c) || !isReading(reading) {
		return api.Span{}, api.ErrArg
	}
	return holds(c, reading), api.OK
}

// distance returns how far a time is from what a span has.
func distance(s api.Span, time int) int { return max(0, s.Lo-time, time-s.Hi) }

// walk returns the first reading, from one on in steps with a sign, at which the span of the true time has a time; or something that is no reading. From one reading to the next one no end of the span moves by more than 2, so nothing is passed over.
func walk(c api.Clock, from, sign, time int) int {
	for isReading(from) && distance(holds(c, from), time) > 0 {
		from += sign * ((distance(holds(c, from), time) + 1) / 2)
	}
	return from
}

func saidReading(c api.Clock, time int) (api.Span, api.Errno) {
	if !isClock(c) || !inOrder(-maxSpan, time, maxSpan) {
		return api.Span{}, api.ErrArg
	}
	s := spanned(walk(c, 0, 1, time), walk(c, maxTime, -1, time))
	if !isReading(s.Lo) {
		return api.Span{}, api.ErrNone
	}
	return s, api.OK
}

func meeting(a, b api.Span) api.Span { return spanned(max(a.Lo, b.Lo), min(a.Hi, b.Hi)) }

func saidSet(c api.Clock, reading int, seen api.Span) (api.Clock, bool, api.Errno) {
	if !isClock(c) || !isReading(reading) || !isSpan(seen) {
		return api.Clock{}, false, api.ErrArg
	}
	both := meeting(holds(c, reading), seen)
	if both.Lo > both.Hi {
		return api.Clock{}, false, api.OK
	}
	set := clockOf(reading, both.Lo-reading, both.Hi-reading, c.Drift)
	if !isClock(set) {
		return api.Clock{}, false, api.ErrRange
	}
	return set, true, api.OK
}

// clocks returns clocks whose numbers are at their limits and between them, in all ways.
func clocks() []api.Clock {
	var l []api.Clock
	for _, at := range []int{0, 1, 1000, 500000000, maxTime - 1, maxTime} {
		for _, offset := range []api.Span{{}, spanned(-5, 5), spanned(7, 7), spanned(-maxOffset, maxOffset), spanned(-maxOffset, -maxOffset), spanned(maxOffset, maxOffset), spanned(-300, maxOffset)} {
			for _, drift := range []int{0, 1, 2, 30, 100, 999, maxDrift} {
				l = append(l, api.Clock{At: at, Offset: offset, Drift: drift})
			}
		}
	}
	return l
}

// somewhere returns an integer from lo to hi, often one near an end.
func somewhere(random *rand.Rand, lo, hi int) int {
	n := min(random.Intn(4), hi-lo)
	switch random.Intn(4) {
	case 0:
		return lo + n
	case 1:
		return hi - n
	}
	return lo + random.Intn(hi-lo+1)
}

// anyClock returns a clock with numbers of any size.
func anyClock(random *rand.Rand) api.Clock {
	most := []int{0, 3, 1000, maxOffset}[random.Intn(4)]
	lo := somewhere(random, -most, most)
	at := somewhere(random, 0, maxTime)
	if random.Intn(3) == 0 {
		at = random.Intn(100000)
	}
	return clockOf(at, lo, somewhere(random, lo, most), somewhere(random, 0, maxDrift))
}

// anyReading returns a reading: one at At, one about which the clock goes wrong by one more, or any.
func anyReading(random *rand.Rand, c api.Clock) int {
	n := c.At + random.Intn(5) - 2
	switch random.Intn(5) {
	case 0:
		n += (random.Intn(41) - 20) * (micro / max(1, c.Drift))
	case 1:
		n += (random.Intn(2001) - 1000) * (micro / max(1, c.Drift))
	case 2:
		n += random.Intn(200001) - 100000
	case 3:
		n = somewhere(random, 0, maxTime)
	}
	return min(max(n, 0), maxTime)
}

// anySeen returns a span: one about an end of that of the true time at a reading, or farther off, or any.
func anySeen(random *rand.Rand, c api.Clock, reading int) api.Span {
	s := holds(c, reading)
	end := []int{s.Lo, s.Hi, reading - maxOffset, reading + maxOffset}[random.Intn(4)]
	other := []int{s.Lo, s.Hi, end, reading - maxOffset, reading + maxOffset, end + random.Intn(2001) - 1000, -maxSpan, maxSpan}[random.Intn(8)]
	a, b := end+random.Intn(5)-2, min(max(other+random.Intn(5)-2, -maxSpan), maxSpan)
	return spanned(min(a, b), max(a, b))
}

// number is a number of a clock, with its limits.
type number struct {
	lo, hi int
	set    func(c *api.Clock, n int)
}

func numbers() []number {
	return []number{
		{0, maxTime, func(c *api.Clock, n int) { c.At = n }},
		{-maxOffset, 20, func(c *api.Clock, n int) { c.Offset = spanned(n, 20) }},
		{-20, maxOffset, func(c *api.Clock, n int) { c.Offset = spanned(-20, n) }},
		{-maxOffset, maxOffset, func(c *api.Clock, n int) { c.Offset = spanned(n, n) }},
		{0, maxDrift, func(c *api.Clock, n int) { c.Drift = n }},
	}
}

// outside returns integers beyond limits, the nearest ones among them.
func outside(lo, hi int) []int {
	return []int{math.MinInt, math.MinInt + 1, lo - 1000, lo - 1, hi + 1, hi + 1000, math.MaxInt - 1, math.MaxInt}
}

// wrongClocks returns clocks that are wrong in a single number.
func wrongClocks() []api.Clock {
	l := []api.Clock{clockOf(5, 1, 0, 0), clockOf(5, 5, -5, 0), clockOf(5, maxOffset, -maxOffset, 0), clockOf(5, math.MaxInt, math.MinInt, 0), clockOf(5, math.MinInt, math.MaxInt, 0), clockOf(5, -maxSpan, maxSpan, 0)}
	for _, x := range numbers() {
		for _, n := range outside(x.lo, x.hi) {
			c := example()
			x.set(&c, n)
			l = append(l, c)
		}
	}
	return l
}

func wrongSpans() []api.Span {
	return []api.Span{spanned(1, 0), spanned(1005, 995), spanned(-maxSpan-1, 0), spanned(0, maxSpan+1), spanned(-maxSpan-1, maxSpan+1), spanned(maxSpan+1, maxSpan+1), spanned(-maxSpan-1, -maxSpan-1), spanned(math.MinInt, math.MaxInt), spanned(math.MaxInt, math.MinInt), spanned(math.MinInt, math.MinInt), spanned(math.MaxInt, math.MaxInt)}
}
