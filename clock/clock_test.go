package clock

import (
	"math"
	"math/rand"
	"testing"

	"landfall/api"
)

func mustTrue(t *testing.T, c api.Clock, reading int) api.Span {
	t.Helper()
	s, e := True(c, reading)
	if e != api.OK {
		t.Fatalf("True(%v, %d): %v", c, reading, e)
	}
	return s
}

func mustSet(t *testing.T, c api.Clock, reading int, seen api.Span) api.Clock {
	t.Helper()
	set, is, e := Set(c, reading, seen)
	if !is || e != api.OK {
		t.Fatalf("Set(%v, %d, %v): %v, %t, %v", c, reading, seen, set, is, e)
	}
	return set
}

// trueAsWords checks True against the chapter's words.
func trueAsWords(t *testing.T, c api.Clock, reading int) {
	t.Helper()
	s, e := True(c, reading)
	if want, saidE := saidTrue(c, reading); s != want || e != saidE {
		t.Fatalf("True(%v, %d): %v, %v instead of %v, %v", c, reading, s, e, want, saidE)
	}
}

// readingAsWords checks Reading against the chapter's words, and returns the error.
func readingAsWords(t *testing.T, c api.Clock, time int) api.Errno {
	t.Helper()
	s, e := Reading(c, time)
	if want, saidE := saidReading(c, time); s != want || e != saidE {
		t.Fatalf("Reading(%v, %d): %v, %v instead of %v, %v", c, time, s, e, want, saidE)
	}
	return e
}

// setAsWords checks Set against the chapter's words, and returns whether the clock is set, and the error.
func setAsWords(t *testing.T, c api.Clock, reading int, seen api.Span) (bool, api.Errno) {
	t.Helper()
	set, is, e := Set(c, reading, seen)
	if want, saidIs, saidE := saidSet(c, reading, seen); set != want || is != saidIs || e != saidE {
		t.Fatalf("Set(%v, %d, %v): %v, %t, %v instead of %v, %t, %v", c, reading, seen, set, is, e, want, saidIs, saidE)
	}
	return is, e
}

func TestP14_1_Limits(t *testing.T) {
	if api.MaxTime != maxTime || api.MaxOffset != maxOffset || api.MaxDrift != maxDrift || api.MaxSpan != maxSpan {
		t.Error("the limits are not the chapter's")
	}
}

func TestP14_1_Valid(t *testing.T) {
	for _, c := range append(clocks(), example(), api.Clock{}) {
		if !Valid(c) {
			t.Errorf("%v is not well-formed", c)
		}
	}
	for _, c := range wrongClocks() {
		if isClock(c) || Valid(c) {
			t.Errorf("%v is well-formed", c)
		}
	}
}

// Each number of a clock can be all that its limits allow, both ends included.
func TestP14_1_ValidNumbers(t *testing.T) {
	for i, x := range numbers() {
		for _, n := range []int{x.lo - 2, x.lo - 1, x.lo, x.lo + 1, (x.lo + x.hi) / 2, x.hi - 1, x.hi, x.hi + 1, x.hi + 2} {
			c := example()
			x.set(&c, n)
			if Valid(c) != (x.lo <= n && n <= x.hi) {
				t.Errorf("number %d, %d to %d: %d", i, x.lo, x.hi, n)
			}
		}
	}
}

// An offset has integers, and each of them is one that an offset can have.
func TestP14_1_ValidOffsets(t *testing.T) {
	ends := []int{math.MinInt, -maxSpan, -maxOffset - 1, -maxOffset, -1, 0, 1, maxOffset, maxOffset + 1, maxSpan, math.MaxInt}
	for _, lo := range ends {
		for _, hi := range ends {
			want := lo <= hi && lo >= -maxOffset && hi <= maxOffset
			if c := clockOf(3, lo, hi, 4); Valid(c) != want {
				t.Errorf("%d to %d: %t", lo, hi, Valid(c))
			}
		}
	}
}

func TestP14_1_TrueExamples(t *testing.T) {
	fast := clockOf(0, 10, 20, maxDrift)
	slow := clockOf(maxTime, -20, -10, 1)
	for _, x := range []struct {
		c       api.Clock
		reading int
		want    api.Span
	}{
		{example(), 21000, spanned(20993, 21007)},
		{example(), 1000, spanned(995, 1005)},
		{example(), 1001, spanned(995, 1007)},
		{example(), 999, spanned(993, 1005)},
		{example(), 11000, spanned(10994, 11006)},
		{example(), 11001, spanned(10994, 11008)},
		{example(), 10999, spanned(10993, 11005)},
		{example(), 0, spanned(-6, 6)},
		{fast, 0, spanned(10, 20)},
		{fast, 1, spanned(10, 22)},
		{fast, 1000, spanned(1009, 1021)},
		{fast, 1001, spanned(1009, 1023)},
		{fast, maxTime, spanned(maxTime-999990, maxTime+1000020)},
		{slow, maxTime, spanned(maxTime-20, maxTime-10)},
		{slow, maxTime - 1, spanned(maxTime-22, maxTime-10)},
		{slow, maxTime - micro, spanned(maxTime-micro-21, maxTime-micro-9)},
		{slow, maxTime - micro - 1, spanned(maxTime-micro-23, maxTime-micro-9)},
		{slow, 0, spanned(-1020, 990)},
		{clockOf(70, -3, 2, 0), 0, spanned(-3, 2)},
		{clockOf(70, -3, 2, 0), maxTime, spanned(maxTime-3, maxTime+2)},
		{clockOf(0, -maxOffset, maxOffset, maxDrift), maxTime, spanned(maxTime-2*maxOffset, maxTime+2*maxOffset)},
		{clockOf(maxTime, -maxOffset, maxOffset, maxDrift), 0, spanned(-2*maxOffset, 2*maxOffset)},
	} {
		if s := mustTrue(t, x.c, x.reading); s != x.want {
			t.Errorf("True(%v, %d): %v instead of %v", x.c, x.reading, s, x.want)
		}
	}
}

func TestP14_1_TrueByWords(t *testing.T) {
	random := rand.New(rand.NewSource(1))
	for _, c := range clocks() {
		for _, n := range []int{0, 1, maxTime - 1, maxTime, c.At} {
			trueAsWords(t, c, n)
		}
		for range 100 {
			trueAsWords(t, c, anyReading(random, c))
		}
	}
	for range 100000 {
		c := anyClock(random)
		trueAsWords(t, c, anyReading(random, c))
	}
}

func TestP14_1_ReadingExamples(t *testing.T) {
	still := clockOf(50, -3, 2, 0)
	fast := clockOf(0, 0, 0, maxDrift)
	for _, x := range []struct {
		c    api.Clock
		time int
		want api.Span
		e    api.Errno
	}{
		{example(), 1000, spanned(994, 1006), api.OK},
		{example(), 21000, spanned(20993, 21008), api.OK},
		{still, 100, spanned(98, 103), api.OK},
		{still, 0, spanned(0, 3), api.OK},
		{still, 2, spanned(0, 5), api.OK},
		{still, 3, spanned(1, 6), api.OK},
		{still, -2, spanned(0, 1), api.OK},
		{still, -3, spanned(0, 0), api.OK},
		{still, -4, api.Span{}, api.ErrNone},
		{still, maxTime, spanned(maxTime-2, maxTime), api.OK},
		{still, maxTime - 3, spanned(maxTime-5, maxTime), api.OK},
		{still, maxTime - 4, spanned(maxTime-6, maxTime-1), api.OK},
		{still, maxTime + 2, spanned(maxTime, maxTime), api.OK},
		{still, maxTime + 3, api.Span{}, api.ErrNone},
		{still, maxSpan, api.Span{}, api.ErrNone},
		{still, -maxSpan, api.Span{}, api.ErrNone},
		{fast, 0, spanned(0, 1), api.OK},
		{fast, 1, spanned(1, 2), api.OK},
		{fast, -1, api.Span{}, api.ErrNone},
		{fast, 1001, spanned(1000, 1003), api.OK},
		{fast, maxTime + micro, spanned(maxTime, maxTime), api.OK},
		{fast, maxTime + micro + 1, api.Span{}, api.ErrNone},
		{clockOf(maxTime, 0, 0, maxDrift), -micro, spanned(0, 0), api.OK},
		{clockOf(maxTime, 0, 0, maxDrift), -micro - 1, api.Span{}, api.ErrNone},
		{clockOf(0, -7, -7, 0), 0, spanned(7, 7), api.OK},
		{clockOf(0, 7, 7, 0), 7, spanned(0, 0), api.OK},
		{clockOf(0, 7, 7, 0), 6, api.Span{}, api.ErrNone},
	} {
		if s, e := Reading(x.c, x.time); s != x.want || e != x.e {
			t.Errorf("Reading(%v, %d): %v, %v instead of %v, %v", x.c, x.time, s, e, x.want, x.e)
		}
	}
}

func TestP14_1_ReadingByWords(t *testing.T) {
	random := rand.New(rand.NewSource(2))
	none := 0
	for _, c := range clocks() {
		first, last := holds(c, 0), holds(c, maxTime)
		for _, end := range []int{first.Lo, first.Hi, last.Lo, last.Hi, c.At + c.Offset.Lo, c.At + c.Offset.Hi} {
			for n := end - 3; n <= end+3; n++ {
				if readingAsWords(t, c, n) == api.ErrNone {
					none++
				}
			}
		}
	}
	for range 50000 {
		c := anyClock(random)
		s := holds(c, anyReading(random, c))
		readingAsWords(t, c, somewhere(random, s.Lo-2, s.Hi+2))
		readingAsWords(t, c, somewhere(random, -maxSpan, maxSpan))
	}
	if none < 1000 {
		t.Errorf("only %d times without readings", none)
	}
}

func TestP14_1_SetExamples(t *testing.T) {
	c := example()
	for _, x := range []struct {
		reading int
		seen    api.Span
		want    api.Clock
		is      bool
	}{
		{21000, spanned(21006, 21020), clockOf(21000, 6, 7, 100), true},
		{21000, spanned(0, 30000), clockOf(21000, -7, 7, 100), true},
		{21000, spanned(21007, 21020), clockOf(21000, 7, 7, 100), true},
		{21000, spanned(21008, 21020), api.Clock{}, false},
		{21000, spanned(0, 20993), clockOf(21000, -7, -7, 100), true},
		{21000, spanned(0, 20992), api.Clock{}, false},
		{21000, spanned(20999, 20999), clockOf(21000, -1, -1, 100), true},
		{1000, spanned(0, 5000), c, true},
		{1000, spanned(995, 1005), c, true},
		{1000, spanned(996, 1004), clockOf(1000, -4, 4, 100), true},
		{0, spanned(-maxSpan, maxSpan), clockOf(0, -6, 6, 100), true},
		{0, spanned(-maxSpan, -6), clockOf(0, -6, -6, 100), true},
		{0, spanned(7, maxSpan), api.Clock{}, false},
		{maxTime, spanned(0, maxTime), clockOf(maxTime, -100005, 0, 100), true},
	} {
		if set, is, e := Set(c, x.reading, x.seen); set != x.want || is != x.is || e != api.OK {
			t.Errorf("Set at %d, %v: %v, %t, %v instead of %v, %t", x.reading, x.seen, set, is, e, x.want, x.is)
		}
	}
}

// An offset that no clock can have is an error; how wide what was seen is does not matter.
func TestP14_1_SetRange(t *testing.T) {
	c := clockOf(0, -maxOffset, maxOffset, maxDrift)
	least, most := maxTime-maxOffset, maxTime+maxOffset
	for _, x := range []struct {
		seen api.Span
		is   bool
		e    api.Errno
	}{
		{spanned(least, most), true, api.OK},
		{spanned(least-1, most), false, api.ErrRange},
		{spanned(least, most+1), false, api.ErrRange},
		{spanned(least-1, most+1), false, api.ErrRange},
		{spanned(-maxSpan, maxSpan), false, api.ErrRange},
		{spanned(-maxSpan, least), false, api.ErrRange},
		{spanned(-maxSpan, least-1), false, api.ErrRange},
		{spanned(least-1, least-1), false, api.ErrRange},
		{spanned(least, least), true, api.OK},
		{spanned(most, most), true, api.OK},
		{spanned(most+1, most+1), false, api.ErrRange},
		{spanned(most+maxOffset, maxSpan), false, api.ErrRange},
		{spanned(most+maxOffset+1, maxSpan), false, api.OK},
		{spanned(-maxSpan, least-maxOffset), false, api.ErrRange},
		{spanned(-maxSpan, least-maxOffset-1), false, api.OK},
	} {
		set, is, e := Set(c, maxTime, x.seen)
		if is != x.is || e != x.e || is != (set != api.Clock{}) {
			t.Errorf("seen %v: %v, %t, %v instead of %t, %v", x.seen, set, is, e, x.is, x.e)
		}
	}
}

func TestP14_1_SetByWords(t *testing.T) {
	random := rand.New(rand.NewSource(3))
	var sets, apart, beyond int
	try := func(c api.Clock) {
		reading := anyReading(random, c)
		switch is, e := setAsWords(t, c, reading, anySeen(random, c, reading)); {
		case is:
			sets++
		case e == api.OK:
			apart++
		default:
			beyond++
		}
	}
	for _, c := range clocks() {
		for range 200 {
			try(c)
		}
	}
	for range 100000 {
		try(anyClock(random))
	}
	if sets < 20000 || apart < 20000 || beyond < 2000 {
		t.Errorf("%d times set, %d times not, %d times out of range", sets, apart, beyond)
	}
}

// The clock comes before all else, and what is no reading, time or span before what it leads to.
func TestP14_1_Errors(t *testing.T) {
	for _, c := range wrongClocks() {
		for _, n := range append(outside(0, maxTime), 0, 1000, maxTime) {
			if s, e := True(c, n); s != (api.Span{}) || e != api.ErrArg {
				t.Errorf("True(%v, %d): %v, %v", c, n, s, e)
			}
			if s, e := Reading(c, n); s != (api.Span{}) || e != api.ErrArg {
				t.Errorf("Reading(%v, %d): %v, %v", c, n, s, e)
			}
			for _, seen := range append(wrongSpans(), spanned(-maxSpan, maxSpan), spanned(-9, -9)) {
				if set, is, e := Set(c, n, seen); set != (api.Clock{}) || is || e != api.ErrArg {
					t.Errorf("Set(%v, %d, %v): %v, %t, %v", c, n, seen, set, is, e)
				}
			}
		}
	}
	for _, c := range append(clocks(), example()) {
		for _, n := range outside(0, maxTime) {
			if s, e := True(c, n); s != (api.Span{}) || e != api.ErrArg {
				t.Errorf("True(%v, %d): %v, %v", c, n, s, e)
			}
			for _, seen := range append(wrongSpans(), spanned(-maxSpan, maxSpan), spanned(n, n)) {
				if set, is, e := Set(c, n, seen); set != (api.Clock{}) || is || e != api.ErrArg {
					t.Errorf("Set(%v, %d, %v): %v, %t, %v", c, n, seen, set, is, e)
				}
			}
		}
		for _, n := range outside(-maxSpan, maxSpan) {
			if s, e := Reading(c, n); s != (api.Span{}) || e != api.ErrArg {
				t.Errorf("Reading(%v, %d): %v, %v", c, n, s, e)
			}
		}
		for _, seen := range wrongSpans() {
			if set, is, e := Set(c, c.At, seen); set != (api.Clock{}) || is || e != api.ErrArg {
				t.Errorf("Set(%v, %d, %v): %v, %t, %v", c, c.At, seen, set, is, e)
			}
		}
	}
}

// drifting is a clock of which it is known what the true time really is: at a reading, this and off (in millionths of a millisecond).
type drifting struct {
	random       *rand.Rand
	drift        int
	reading, off int
}

// start returns a clock that is off, at At, by something that Offset has, whole or not.
func start(random *rand.Rand, c api.Clock) drifting {
	off := somewhere(random, c.Offset.Lo*micro, c.Offset.Hi*micro)
	return drifting{random, c.Drift, c.At, off}
}

// goTo moves on to a reading, earlier or later; how fast the clock goes changes on the way.
func (d *drifting) goTo(reading int) {
	for d.reading != reading {
		n := reading - d.reading
		if d.random.Intn(3) > 0 {
			n = somewhere(d.random, min(n, 0), max(n, 0))
		}
		d.off += n * somewhere(d.random, -d.drift, d.drift)
		d.reading += n
	}
}

// isIn reports whether the true time is in a span.
func (d *drifting) isIn(s api.Span) bool {
	return inOrder(s.Lo*micro, d.reading*micro+d.off, s.Hi*micro)
}

func TestP14_2_TrueTime(t *testing.T) {
	random := rand.New(rand.NewSource(4))
	for range 20000 {
		c := anyClock(random)
		later, earlier := start(random, c), start(random, c)
		for range 3 {
			later.goTo(min(maxTime, later.reading+random.Intn(micro)*random.Intn(1000)))
			earlier.goTo(max(0, earlier.reading-random.Intn(micro)*random.Intn(1000)))
			for _, d := range []drifting{later, earlier} {
				if s := mustTrue(t, c, d.reading); !d.isIn(s) {
					t.Fatalf("%v at %d: off by %d millionths, which is not in %v", c, d.reading, d.off, s)
				}
			}
		}
	}
}

// A clock that always goes wrong as fast as it may, in one direction, is less than a millisecond from an end of the span.
func TestP14_2_Fastest(t *testing.T) {
	random := rand.New(rand.NewSource(5))
	for range 50000 {
		c := anyClock(random)
		n := anyReading(random, c)
		s := mustTrue(t, c, n)
		latest, earliest := (n+c.Offset.Hi)*micro+really(c, n), (n+c.Offset.Lo)*micro-really(c, n)
		if latest > s.Hi*micro || latest <= (s.Hi-1)*micro || earliest < s.Lo*micro || earliest >= (s.Lo+1)*micro {
			t.Fatalf("%v at %d: from %d to %d, and the span is %v", c, n, earliest, latest, s)
		}
	}
}

// All readings from the first to the last one, and no others, can be shown at a time.
func TestP14_3_AllReadings(t *testing.T) {
	for _, drift := range []int{0, 1, 500, 999, maxDrift} {
		for _, at := range []int{0, 3, 900, 2400, maxTime} {
			for _, offset := range []api.Span{{}, spanned(-3, 2), spanned(-9, -4), spanned(4, 90)} {
				c := api.Clock{At: at, Offset: offset, Drift: drift}
				var spans []api.Span
				for n := range 2400 {
					spans = append(spans, mustTrue(t, c, n))
				}
				for time := -5; time < 1400; time++ {
					shown, e := Reading(c, time)
					for n, s := range spans {
						if has(s, time) != (e == api.OK && has(shown, n)) {
							t.Fatalf("%v at %d: from %d to %d, and %d is true from %d to %d", c, time, shown.Lo, shown.Hi, n, s.Lo, s.Hi)
						}
					}
				}
			}
		}
	}
}

func TestP14_3_Exactly(t *testing.T) {
	random := rand.New(rand.NewSource(6))
	shownAt, notShown := 0, 0
	for range 50000 {
		c := anyClock(random)
		s := holds(c, anyReading(random, c))
		time := somewhere(random, s.Lo-2, s.Hi+2)
		shown, e := Reading(c, time)
		l := []int{0, 1, maxTime, c.At, anyReading(random, c), time - c.Offset.Lo, time - c.Offset.Hi, somewhere(random, 0, maxTime)}
		if e == api.OK {
			l = append(l, shown.Lo-1, shown.Lo, shown.Lo+1, shown.Hi-1, shown.Hi, shown.Hi+1, somewhere(random, shown.Lo, shown.Hi))
		}
		for _, n := range l {
			if !isReading(n) {
				continue
			}
			is := e == api.OK && has(shown, n)
			if s := mustTrue(t, c, n); has(s, time) != is {
				t.Fatalf("%v at %d: from %d to %d, and %d is true from %d to %d", c, time, shown.Lo, shown.Hi, n, s.Lo, s.Hi)
			}
			if is {
				shownAt++
			} else {
				notShown++
			}
		}
	}
	if shownAt < 100000 || notShown < 100000 {
		t.Errorf("%d times shown, %d times not", shownAt, notShown)
	}
}

func TestP14_4_Meeting(t *testing.T) {
	random := rand.New(rand.NewSource(7))
	sets := 0
	for range 100000 {
		c := anyClock(random)
		n := anyReading(random, c)
		seen := anySeen(random, c, n)
		set, is, _ := Set(c, n, seen)
		if !is {
			continue
		}
		sets++
		if s, want := mustTrue(t, set, n), meeting(mustTrue(t, c, n), seen); s != want || set.At != n || set.Drift != c.Drift || !Valid(set) {
			t.Fatalf("%v, set at %d to %v: %v, with %v instead of %v", c, n, seen, set, s, want)
		}
	}
	if sets < 20000 {
		t.Errorf("%d times set", sets)
	}
}

// At each other reading a clock that was set has what can follow, and no end of its span is a millisecond from it.
func TestP14_4_WhatFollows(t *testing.T) {
	random := rand.New(rand.NewSource(8))
	sets := 0
	for range 50000 {
		c := anyClock(random)
		n := anyReading(random, c)
		seen := anySeen(random, c, n)
		set, is, _ := Set(c, n, seen)
		if !is {
			continue
		}
		sets++
		both := meeting(mustTrue(t, c, n), seen)
		for range 5 {
			other := anyReading(random, set)
			s := mustTrue(t, set, other)
			most := c.Drift * apart(other, n)
			for _, time := range []int{both.Lo, both.Hi, somewhere(random, both.Lo, both.Hi)} {
				for _, change := range []int{-most, most, somewhere(random, -most, most)} {
					if !inOrder(s.Lo*micro, (time+other-n)*micro+change, s.Hi*micro) {
						t.Fatalf("%v, set at %d to %v: %d is off by %d millionths more at %d, where the span is %v", c, n, seen, time, change, other, s)
					}
				}
			}
			if earliest, latest := (both.Lo+other-n)*micro-most, (both.Hi+other-n)*micro+most; (s.Lo+1)*micro <= earliest || latest <= (s.Hi-1)*micro {
				t.Fatalf("%v, set at %d to %v: at %d from %d to %d, where the span is %v", c, n, seen, other, earliest, latest, s)
			}
		}
	}
	if sets < 10000 {
		t.Errorf("%d times set", sets)
	}
}

// Whoever sets a clock to what is really so, as often as one likes, keeps the true time in its span.
func TestP14_4_OneAfterTheOther(t *testing.T) {
	random := rand.New(rand.NewSource(9))
	sets := 0
	for range 5000 {
		c := anyClock(random)
		c.Offset = spanned(c.Offset.Lo/2, c.Offset.Hi/2)
		d := start(random, c)
		for range 10 {
			d.goTo(min(maxTime, d.reading+random.Intn(10)*random.Intn(micro)))
			time := d.reading + d.off/micro
			set, is, e := Set(c, d.reading, spanned(time-1-random.Intn(50), time+1+random.Intn(50)))
			if e == api.ErrRange {
				break
			}
			if !is || e != api.OK || !d.isIn(mustTrue(t, set, d.reading)) || !d.isIn(mustTrue(t, c, d.reading)) {
				t.Fatalf("%v at %d: off by %d millionths, and set: %v, %t, %v", c, d.reading, d.off, set, is, e)
			}
			c = set
			sets++
		}
	}
	if sets < 40000 {
		t.Errorf("%d times set", sets)
	}
}

func TestP14_5_Order(t *testing.T) {
	random := rand.New(rand.NewSource(10))
	for range 50000 {
		c := anyClock(random)
		a, b := anyReading(random, c), anyReading(random, c)
		if random.Intn(2) == 0 {
			b = min(a+1, maxTime)
		}
		s, later := mustTrue(t, c, min(a, b)), mustTrue(t, c, max(a, b))
		if later.Lo < s.Lo || later.Hi < s.Hi {
			t.Fatalf("%v: %v at %d, and %v at %d", c, s, min(a, b), later, max(a, b))
		}
	}
}

func TestP14_5_OneByOne(t *testing.T) {
	for _, drift := range []int{0, 1, 7, 500, 999, maxDrift} {
		for _, at := range []int{0, 1, 5000, 9999, maxTime} {
			c := clockOf(at, -3, 4, drift)
			before := mustTrue(t, c, 0)
			for n := 1; n < 10000; n++ {
				s := mustTrue(t, c, n)
				if s.Lo < before.Lo || s.Hi < before.Hi {
					t.Fatalf("%v: %v at %d, after %v", c, s, n, before)
				}
				before = s
			}
		}
	}
}

// worse returns a clock with a greater Drift, with an Offset that has the clock's, or with both.
func worse(random *rand.Rand, c api.Clock) api.Clock {
	kind := random.Intn(3)
	if kind != 0 {
		c.Drift = somewhere(random, c.Drift, maxDrift)
	}
	if kind != 1 {
		c.Offset = spanned(somewhere(random, -maxOffset, c.Offset.Lo), somewhere(random, c.Offset.Hi, maxOffset))
	}
	return c
}

func TestP14_6_BetterClocks(t *testing.T) {
	random := rand.New(rand.NewSource(11))
	wider := 0
	for range 50000 {
		c := anyClock(random)
		other := worse(random, c)
		for _, n := range []int{0, maxTime, c.At, anyReading(random, c), anyReading(random, other)} {
			s, greater := mustTrue(t, c, n), mustTrue(t, other, n)
			if !isSpanWithin(s, greater) {
				t.Fatalf("at %d %v has %v, and %v has %v", n, c, s, other, greater)
			}
			if s != greater {
				wider++
			}
			shown, e := Reading(c, s.Lo)
			shownByOther, otherE := Reading(other, s.Lo)
			if e != api.OK || otherE != api.OK || !isSpanWithin(shown, shownByOther) {
				t.Fatalf("at %d %v shows %v, and %v shows %v", s.Lo, c, shown, other, shownByOther)
			}
		}
	}
	if wider < 100000 {
		t.Errorf("only %d spans were wider", wider)
	}
}

func TestP14_7_Contradictions(t *testing.T) {
	random := rand.New(rand.NewSource(12))
	contradicted := 0
	for range 100000 {
		c := anyClock(random)
		n := anyReading(random, c)
		seen := anySeen(random, c, n)
		s := mustTrue(t, c, n)
		_, is, e := Set(c, n, seen)
		isApart := seen.Hi < s.Lo || s.Hi < seen.Lo
		if e != api.ErrRange && is == isApart || e == api.ErrRange && (is || isApart) {
			t.Fatalf("%v at %d: %v was seen, where the span is %v: %t, %v", c, n, seen, s, is, e)
		}
		if isApart {
			contradicted++
		}
	}
	if contradicted < 20000 {
		t.Errorf("only %d contradictions", contradicted)
	}
}

// What touches the span of a clock sets it, and what is next to it does not.
func TestP14_7_Ends(t *testing.T) {
	random := rand.New(rand.NewSource(13))
	for range 20000 {
		c := anyClock(random)
		c.Offset = spanned(c.Offset.Lo/4, c.Offset.Hi/4)
		n := c.At + random.Intn(micro)
		if !isReading(n) {
			continue
		}
		s := mustTrue(t, c, n)
		if set := mustSet(t, c, n, spanned(-maxSpan, s.Lo)); set.Offset != spanned(s.Lo-n, s.Lo-n) {
			t.Fatalf("%v at %d: seen until %d: %v", c, n, s.Lo, set)
		}
		if set := mustSet(t, c, n, spanned(s.Hi, maxSpan)); set.Offset != spanned(s.Hi-n, s.Hi-n) {
			t.Fatalf("%v at %d: seen from %d on: %v", c, n, s.Hi, set)
		}
		for _, seen := range []api.Span{spanned(-maxSpan, s.Lo-1), spanned(s.Hi+1, maxSpan), spanned(s.Lo-1, s.Lo-1), spanned(s.Hi+1, s.Hi+1)} {
			if set, is, e := Set(c, n, seen); set != (api.Clock{}) || is || e != api.OK {
				t.Fatalf("%v at %d: seen %v: %v, %t, %v", c, n, seen, set, is, e)
			}
		}
	}
}

func TestP14_7_WhatItShows(t *testing.T) {
	random := rand.New(rand.NewSource(14))
	all := append(clocks(), example(), api.Clock{})
	for range 20000 {
		all = append(all, anyClock(random))
	}
	for _, c := range all {
		s := mustTrue(t, c, c.At)
		for _, seen := range []api.Span{s, spanned(s.Lo-random.Intn(9), s.Hi+random.Intn(9)), spanned(-maxSpan, maxSpan)} {
			if set := mustSet(t, c, c.At, seen); set != c {
				t.Fatalf("%v, set at %d to %v: %v", c, c.At, seen, set)
			}
		}
	}
}

func TestP1_AllArgumentsEnd(t *testing.T) {
	numbers := []int{math.MinInt, math.MinInt + 1, -maxSpan - 1, -maxSpan, -maxOffset - 1, -maxOffset, -1, 0, 0, 0, 1, 2, maxDrift, maxDrift + 1, maxOffset, maxOffset + 1, maxTime - 1, maxTime, maxTime + 1, maxSpan, maxSpan + 1, math.MaxInt - 1, math.MaxInt}
	random := rand.New(rand.NewSource(15))
	number := func() int { return numbers[random.Intn(len(numbers))] }
	for range 200000 {
		c := clockOf(number(), number(), number(), number())
		if random.Intn(2) > 0 {
			c = anyClock(random)
		}
		if Valid(c) != isClock(c) {
			t.Fatalf("Valid(%v) is not %t", c, isClock(c))
		}
		trueAsWords(t, c, number())
		readingAsWords(t, c, number())
		setAsWords(t, c, number(), spanned(number(), number()))
	}
}

func TestP1_ArgumentsAlone(t *testing.T) {
	random := rand.New(rand.NewSource(16))
	type results struct {
		shown, readings  api.Span
		set              api.Clock
		is               bool
		first, next, end api.Errno
	}
	for range 20000 {
		c := anyClock(random)
		n := anyReading(random, c)
		seen := anySeen(random, c, n)
		all := func() (r results) {
			r.shown, r.first = True(c, n)
			r.readings, r.next = Reading(c, n)
			r.set, r.is, r.end = Set(c, n, seen)
			return r
		}
		before := all()
		Set(example(), 21000, spanned(21006, 21020))
		Reading(anyClock(random), 0)
		if after := all(); after != before {
			t.Fatalf("%v, %d, %v: %v, then %v", c, n, seen, before, after)
		}
	}
}

// Whatever never falls is found by its values: here by texts that grow.
func TestP1_FirstReading(t *testing.T) {
	name := func(reading int) string {
		if reading < 700 {
			return "before"
		}
		return "from then on"
	}
	for _, x := range []struct {
		value string
		want  int
	}{{"a", 0}, {"before", 0}, {"c", 700}, {"from then on", 700}, {"g", maxTime + 1}} {
		if n := firstReading(x.value, name); n != x.want {
			t.Errorf("%q: %d instead of %d", x.value, n, x.want)
		}
	}
}
