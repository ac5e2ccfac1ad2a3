package tide

import (
	"math"
	"math/rand"
	"slices"
	"testing"

	"landfall/api"
	"landfall/hull"
)

func (s stay) bound(t api.Tide) (api.Flow, api.Errno) { return Bound(t, s.lo, s.hi, s.from, s.until) }

func (s stay) drift(t api.Tide) ([]api.Point, api.Errno) {
	return Drift(t, s.lo, s.hi, s.from, s.until)
}

func mustAt(t *testing.T, d api.Tide, x api.Point, time int) api.Flow {
	t.Helper()
	f, e := At(d, x, time)
	if e != api.OK {
		t.Fatalf("At(%v, %d): %v", x, time, e)
	}
	return f
}

func mustBound(t *testing.T, d api.Tide, s stay) api.Flow {
	t.Helper()
	f, e := s.bound(d)
	if e != api.OK {
		t.Fatalf("Bound for %v: %v", s, e)
	}
	return f
}

func mustDrift(t *testing.T, d api.Tide, s stay) (lo, hi api.Point) {
	t.Helper()
	p, e := s.drift(d)
	if e != api.OK || !hull.Valid(p) {
		t.Fatalf("Drift for %v: %v, %v", s, p, e)
	}
	return boxOf(p)
}

// boundAsWords checks Bound against the chapter's words.
func boundAsWords(t *testing.T, d api.Tide, s stay) {
	t.Helper()
	f, e := s.bound(d)
	if want, saidE := saidBound(d, s); f != want || e != saidE {
		t.Fatalf("Bound for %v with %d flows from %d on: %v, %v instead of %v, %v", s, len(d.Flows), d.From, f, e, want, saidE)
	}
}

// driftAsWords checks Drift against the chapter's words, and returns the error.
func driftAsWords(t *testing.T, d api.Tide, s stay) api.Errno {
	t.Helper()
	p, e := s.drift(d)
	if want, saidE := saidDrift(d, s); !slices.Equal(p, want) || e != saidE {
		t.Fatalf("Drift for %v with %d flows from %d on: %v, %v instead of %v, %v", s, len(d.Flows), d.From, p, e, want, saidE)
	}
	return e
}

// still returns an edition without flows, in which the current has one speed, and there is no tide.
func still(u, v api.Span) api.Tide { return api.Tide{Version: 1, Rest: api.Flow{U: u, V: v}} }

func TestP13_1_Limits(t *testing.T) {
	if api.MaxID != maxVersion || api.MaxTime != maxTime || api.MaxLasts != maxLasts || api.MaxSlots != maxSlots || api.MaxFlows != maxFlows || api.MaxFlow != maxFlow || api.MaxHeight != maxHeight || api.MaxCoord != maxCoord || api.MaxBlock != blockSize || api.MaxSlot != slotTime {
		t.Error("the limits are not the chapter's")
	}
}

func TestP13_1_ValidEditions(t *testing.T) {
	for i, d := range append(editions(), bases()...) {
		if !isEdition(d) || !Valid(d) {
			t.Errorf("edition %d is not well-formed", i)
		}
	}
	for _, d := range wrongEditions() {
		if isEdition(d) || Valid(d) {
			t.Errorf("%v is well-formed", d)
		}
	}
	if Valid(api.Tide{}) || !Valid(api.Tide{Version: 1}) || !Valid(api.Tide{Version: 1, Flows: []api.Flow{}}) {
		t.Error("an edition needs a version, and nothing else")
	}
}

// Each number of an edition can be all that its limits allow, both ends included.
func TestP13_1_ValidNumbers(t *testing.T) {
	for i, c := range numbers() {
		for _, d := range bases() {
			lo, hi := c.limits(d)
			for _, n := range []int{lo - 2, lo - 1, lo, lo + 1, (lo + hi) / 2, hi - 1, hi, hi + 1, hi + 2} {
				x := changed(d, func(d *api.Tide) { c.set(d, n) })
				if Valid(x) != isEdition(x) || Valid(x) != (lo <= n && n <= hi) {
					t.Errorf("number %d, %d to %d: %d", i, lo, hi, n)
				}
			}
		}
	}
}

// A flow can only be in a slot that there is.
func TestP13_1_ValidSlots(t *testing.T) {
	for slots := -1; slots <= maxSlots+1; slots++ {
		for _, slot := range []int{-1, 0, slots - 1, slots} {
			d := api.Tide{Version: 1, Slots: slots, Flows: []api.Flow{{Slot: slot}}}
			if want := 0 <= slot && slot < slots && slots <= maxSlots; Valid(d) != want {
				t.Errorf("slot %d of %d: %t", slot, slots, Valid(d))
			}
		}
		if d := (api.Tide{Version: 1, Slots: slots}); Valid(d) != (slots >= 0 && slots <= maxSlots) {
			t.Errorf("%d slots: %t", slots, Valid(d))
		}
	}
}

// Flows rise strictly by Slot, then Y, then X.
func TestP13_1_ValidOrder(t *testing.T) {
	var l []api.Flow
	for _, slot := range []int{0, 1, 2} {
		for _, y := range []int{-50, -1, 0, 50} {
			for _, x := range []int{-50, 0, 1, 50} {
				l = append(l, api.Flow{X: x, Y: y, Slot: slot})
			}
		}
	}
	for i, f := range l {
		for j, g := range l {
			d := api.Tide{Version: 1, Slots: 3, Flows: []api.Flow{f, g}}
			if Valid(d) != (i < j) {
				t.Errorf("%v, then %v: %t", f, g, Valid(d))
			}
		}
	}
	if d := (api.Tide{Version: 1, Slots: 3, Flows: l}); !Valid(d) {
		t.Error("all of them are no table")
	}
}

// A flow is as wrong behind right ones as before them.
func TestP13_1_ValidPlaces(t *testing.T) {
	for n := range 40 {
		d := api.Tide{Version: 1, Slots: 40}
		for i := range n + 1 {
			d.Flows = append(d.Flows, api.Flow{Slot: i})
		}
		for i := range d.Flows {
			for j, change := range []func(f *api.Flow){
				func(f *api.Flow) { f.U = spanned(1, 0) }, func(f *api.Flow) { f.V = spanned(0, maxFlow+1) }, func(f *api.Flow) { f.Height = spanned(-maxHeight-1, 0) },
				func(f *api.Flow) { f.X = 51 }, func(f *api.Flow) { f.Y = -51 }, func(f *api.Flow) { f.Slot = 40 },
			} {
				if x := changed(d, func(d *api.Tide) { change(&d.Flows[i]) }); Valid(x) {
					t.Errorf("flow %d of %d, change %d", i, n+1, j)
				}
			}
			if i > 0 && Valid(changed(d, func(d *api.Tide) { d.Flows[i-1], d.Flows[i] = d.Flows[i], d.Flows[i-1] })) {
				t.Errorf("flows %d and %d of %d in the other order", i-1, i, n+1)
			}
			if i > 0 && Valid(changed(d, func(d *api.Tide) { d.Flows[i] = d.Flows[i-1] })) {
				t.Errorf("flow %d of %d twice", i-1, n+1)
			}
		}
	}
}

func TestP13_1_ValidLengths(t *testing.T) {
	random := rand.New(rand.NewSource(2))
	d := fastest(maxFlow).edition(random, 0, 1, upTo(-50, 50), upTo(-50, 50), []int{0}, 100)
	all := d.Flows
	for _, n := range []int{0, 1, 2, 10, 3999, 4000, 4001, 5000, len(all)} {
		d.Flows = all[:n]
		f, e := At(d, at(-maxCoord, -maxCoord), 0)
		want, saidE := saidBound(d, here(at(-maxCoord, -maxCoord), 0))
		if Valid(d) != (n <= maxFlows) || f != want || e != saidE {
			t.Errorf("%d flows: %t, %v, %v", n, Valid(d), f, e)
		}
	}
}

// The block of a place and the slot of a time are rounded down, also below 0.
func TestP13_1_AtEnds(t *testing.T) {
	d := api.Tide{Version: 1, From: 7200, Slots: 2, Rest: api.Flow{U: spanned(-1, 1)}}
	for slot := range 2 {
		for y := -1; y <= 0; y++ {
			for x := -1; x <= 0; x++ {
				n := 100*slot + 10*(y+1) + x + 1
				d.Flows = append(d.Flows, flow(x, y, slot, spanned(n, n+5), spanned(-n, n), spanned(n, 2*n)))
			}
		}
	}
	for _, slot := range []int{-1, 0, 1, 2} {
		for _, time := range []int{7200 + 3600*slot, 7201 + 3600*slot, 9000 + 3600*slot, 10799 + 3600*slot} {
			for y := -2; y <= 1; y++ {
				for x := -2; x <= 1; x++ {
					want := alone(d.Rest)
					if i := slices.IndexFunc(d.Flows, func(f api.Flow) bool { return keyOf(f) == [3]int{slot, y, x} }); i >= 0 {
						want = alone(d.Flows[i])
					}
					for _, p := range rectangle(at(10000*x, 10000*y), at(10000*x+9999, 10000*y+9999)) {
						if f := mustAt(t, d, p, time); f != want {
							t.Errorf("%v, %d: %v instead of %v", p, time, f, want)
						}
					}
				}
			}
		}
	}
}

func TestP13_1_AtByWords(t *testing.T) {
	random := rand.New(rand.NewSource(3))
	for _, d := range editions() {
		count := map[bool]int{}
		for _, s := range stays(random, d, 400) {
			f := mustAt(t, d, s.lo, s.from)
			if want := holds(d, s.lo, s.from); f != want {
				t.Fatalf("At(%v, %d) with %d flows from %d on: %v instead of %v", s.lo, s.from, len(d.Flows), d.From, f, want)
			}
			count[f == alone(d.Rest)]++
		}
		if count[true] == 0 || len(d.Flows) > 1000 && count[false] < 4 {
			t.Errorf("Rest, and others, with %d flows: %v", len(d.Flows), count)
		}
	}
}

// Each flow of a table is found, in all corners of its block, in the first and in the last second of its slot.
func TestP13_1_AtEachFlow(t *testing.T) {
	for _, d := range editions() {
		for _, f := range d.Flows {
			for _, p := range rectangle(at(f.X*blockSize, f.Y*blockSize), at(f.X*blockSize+9999, f.Y*blockSize+9999)) {
				for _, time := range []int{d.From + f.Slot*slotTime, d.From + f.Slot*slotTime + 3599} {
					if !here(p, time).isRight() {
						continue
					}
					if got := mustAt(t, d, p, time); got != alone(f) {
						t.Fatalf("At(%v, %d): %v instead of %v", p, time, got, f)
					}
				}
			}
		}
	}
}

// The blocks 50, of which there is one place or one row of places only, are blocks as all others.
func TestP13_1_OutermostBlocks(t *testing.T) {
	one := func(x, y, n int) api.Flow { return flow(x, y, 0, spanned(n, n), spanned(n, n), spanned(n, n)) }
	d := api.Tide{Version: 1, Slots: 1, Flows: []api.Flow{one(-50, -50, 1), one(50, -50, 2), one(-50, 50, 3), one(49, 50, 4), one(50, 50, 5)}}
	for _, c := range []struct{ x, y, n int }{
		{-500000, -500000, 1}, {-490001, -490001, 1}, {-490000, -490001, 0}, {500000, -500000, 2}, {499999, -500000, 0}, {500000, -490001, 2}, {500000, -490000, 0},
		{-500000, 500000, 3}, {-490001, 500000, 3}, {-500000, 499999, 0}, {499999, 500000, 4}, {490000, 500000, 4}, {489999, 500000, 0}, {500000, 500000, 5}, {500000, 499999, 0},
	} {
		n := spanned(c.n, c.n)
		if f := mustAt(t, d, at(c.x, c.y), 0); f != (api.Flow{U: n, V: n, Height: n}) {
			t.Errorf("%v: %v", c, f)
		}
	}
	if f := mustBound(t, d, stay{at(-maxCoord, -maxCoord), at(maxCoord, maxCoord), 0, 0}); f.U != spanned(0, 5) {
		t.Errorf("all of the sea: %v", f)
	}
	if f := mustBound(t, d, stay{at(499999, 500000), at(500000, 500000), 0, 0}); f.U != spanned(4, 5) {
		t.Errorf("the last two places: %v", f)
	}
}

func TestP13_1_Errors(t *testing.T) {
	refused := func(d api.Tide, s stay) {
		t.Helper()
		if f, e := s.bound(d); f != (api.Flow{}) || e != api.ErrArg {
			t.Fatalf("Bound of %v for %v: %v, %v", d, s, f, e)
		}
		if p, e := s.drift(d); p != nil || e != api.ErrArg {
			t.Fatalf("Drift of %v for %v: %v, %v", d, s, p, e)
		}
		if s.lo != s.hi || s.from != s.until {
			return
		}
		if f, e := At(d, s.lo, s.from); f != (api.Flow{}) || e != api.ErrArg {
			t.Fatalf("At of %v for %v: %v, %v", d, s, f, e)
		}
	}
	count := 0
	for _, s := range wrongStays() {
		for _, d := range append(bases(), example(), api.Tide{}) {
			refused(d, s)
		}
		if s.lo == s.hi && s.from == s.until {
			count++
		}
	}
	if count < 50 {
		t.Errorf("only %d wrong places and times", count)
	}
	for _, d := range append(wrongEditions(), api.Tide{}) {
		for _, s := range []stay{{}, here(at(5, 5), 7), {at(-5, -5), at(5, 5), 0, 10}, here(at(maxCoord+1, 0), 0)} {
			refused(d, s)
		}
	}
}

func TestP13_1_BoundExamples(t *testing.T) {
	d := example()
	for _, c := range []struct {
		s    stay
		u, v api.Span
	}{
		{here(at(0, 0), 0), spanned(200, 300), spanned(0, 0)},
		{stay{at(0, 0), at(9999, 9999), 0, 3599}, spanned(200, 300), spanned(0, 0)},
		{stay{at(-1, 0), at(0, 0), 0, 0}, spanned(-100, 300), spanned(-100, 100)},
		{stay{at(0, -1), at(0, 0), 0, 0}, spanned(-100, 300), spanned(-100, 100)},
		{stay{at(9999, 0), at(10000, 0), 0, 0}, spanned(-100, 300), spanned(-100, 100)},
		{stay{at(0, 9999), at(0, 10000), 0, 0}, spanned(-100, 300), spanned(-100, 100)},
		{stay{at(5, 5), at(5, 5), 3599, 3600}, spanned(-100, 300), spanned(-100, 100)},
		{stay{at(5, 5), at(5, 5), 0, maxTime}, spanned(-100, 300), spanned(-100, 100)},
		{stay{at(5, 5), at(5, 5), 3600, maxTime}, spanned(-100, 100), spanned(-100, 100)},
		{stay{at(-10000, 0), at(-1, 9999), 0, 3599}, spanned(-100, 100), spanned(-100, 100)},
		{stay{at(-maxCoord, -maxCoord), at(maxCoord, maxCoord), 0, maxTime}, spanned(-100, 300), spanned(-100, 100)},
	} {
		if f := mustBound(t, d, c.s); f != (api.Flow{U: c.u, V: c.v}) {
			t.Errorf("%v: %v", c.s, f)
		}
	}
}

func TestP13_1_BoundByWords(t *testing.T) {
	random := rand.New(rand.NewSource(4))
	for _, d := range editions() {
		for _, s := range stays(random, d, 600) {
			boundAsWords(t, d, s)
		}
	}
}

// One block, or one slot, without a flow is enough for Rest to play a part; without any, it plays none.
func TestP13_1_BoundOfTheRest(t *testing.T) {
	random := rand.New(rand.NewSource(5))
	full := fastest(10).edition(random, 3600, 3, upTo(-1, 1), upTo(-1, 1), upTo(0, 2), 100)
	far := spanned(4000, 4001)
	full.Rest = api.Flow{U: far, V: far, Height: spanned(2000, 2000)}
	all := stay{at(-10000, -10000), at(19999, 19999), 3600, 14399}
	if f := mustBound(t, full, all); f.U.Hi > 10 || f.V.Hi > 10 {
		t.Errorf("Rest plays a part: %v", f)
	}
	for i := range full.Flows {
		d := changed(full, func(d *api.Tide) { d.Flows = slices.Delete(d.Flows, i, i+1) })
		if f := mustBound(t, d, all); f.U.Hi != 4001 || f.V.Hi != 4001 || f.Height.Hi != 2000 || f.U.Lo > 10 || f.V.Lo > 10 {
			t.Errorf("without flow %d: %v", i, f)
		}
	}
	for i, change := range []func(s *stay){
		func(s *stay) { s.lo.X-- }, func(s *stay) { s.lo.Y-- }, func(s *stay) { s.hi.X++ }, func(s *stay) { s.hi.Y++ }, func(s *stay) { s.from-- }, func(s *stay) { s.until++ },
	} {
		s := all
		change(&s)
		if f := mustBound(t, full, s); f.U.Hi != 4001 || f.V.Hi != 4001 {
			t.Errorf("one more, change %d: %v", i, f)
		}
	}
}

func TestP13_1_DriftExamples(t *testing.T) {
	d := example()
	for _, c := range []struct {
		s    stay
		want []api.Point
	}{
		{stay{at(0, 0), at(9999, 9999), 0, 100}, []api.Point{at(200, 0), at(300, 0)}},
		{stay{at(-1, 0), at(0, 0), 0, 100}, []api.Point{at(-100, -100), at(300, -100), at(300, 100), at(-100, 100)}},
		{stay{at(0, 0), at(0, 0), 0, 1}, []api.Point{at(2, 0), at(3, 0)}},
		{stay{at(-1, 0), at(-1, 0), 0, 1}, []api.Point{at(-1, -1), at(1, -1), at(1, 1), at(-1, 1)}},
		{stay{at(-1, 0), at(0, 0), 77, 77}, []api.Point{at(0, 0)}},
	} {
		if p, e := c.s.drift(d); e != api.OK || !slices.Equal(p, c.want) {
			t.Errorf("%v: %v, %v", c.s, p, e)
		}
	}
}

// What is no decimetre is rounded down for Lo, and up for Hi, on both sides of 0.
func TestP13_1_DriftRounding(t *testing.T) {
	for _, c := range []struct{ u, seconds, lo, hi int }{
		{1, 1, 0, 1}, {-1, 1, -1, 0}, {99, 1, 0, 1}, {100, 1, 1, 1}, {-100, 1, -1, -1}, {101, 1, 1, 2}, {-101, 1, -2, -1},
		{1, 100, 1, 1}, {1, 101, 1, 2}, {-1, 101, -2, -1}, {3, 33, 0, 1}, {3, 34, 1, 2}, {-3, 34, -2, -1}, {7, 100000, 7000, 7000}, {5000, 1, 50, 50}, {-5000, 3, -150, -150},
		{0, 100000, 0, 0}, {1, 0, 0, 0}, {-5000, 0, 0, 0},
	} {
		for way := range 2 {
			u, v, lo, hi := spanned(c.u, c.u), api.Span{}, at(c.lo, 0), at(c.hi, 0)
			if way > 0 {
				u, v, lo, hi = v, u, at(0, c.lo), at(0, c.hi)
			}
			p, e := Drift(still(u, v), at(3, 4), at(5, 6), 50, 50+c.seconds)
			if e != api.OK || !slices.Equal(p, rectangle(lo, hi)) {
				t.Errorf("%v: %v, %v", c, p, e)
			}
		}
	}
}

// A drift reaches up to where places end, and no further. 505 * 99010 is 50000050, and 999 * 50050 is 49999950.
func TestP13_1_DriftRange(t *testing.T) {
	for _, c := range []struct {
		u       api.Span
		seconds int
		e       api.Errno
	}{
		{spanned(-500, 500), 100000, api.OK}, {spanned(-500, 501), 100000, api.ErrRange}, {spanned(-501, 500), 100000, api.ErrRange},
		{spanned(-5000, 5000), 10000, api.OK}, {spanned(0, 5000), 10001, api.ErrRange}, {spanned(-5000, 0), 10001, api.ErrRange}, {spanned(-5000, 5000), 100000, api.ErrRange},
		{spanned(0, 505), 99010, api.ErrRange}, {spanned(-505, 0), 99010, api.ErrRange}, {spanned(505, 505), 99010, api.ErrRange}, {spanned(-505, -505), 99010, api.ErrRange},
		{spanned(0, 999), 50050, api.OK}, {spanned(-999, 0), 50050, api.OK}, {spanned(-999, 999), 50050, api.OK},
		// Too long a time comes first.
		{spanned(-5000, 5000), 100001, api.ErrArg}, {spanned(0, 0), 100001, api.ErrArg}, {spanned(0, 0), 100000, api.OK}, {spanned(-5000, 5000), maxTime, api.ErrArg},
	} {
		for _, d := range []api.Tide{still(c.u, api.Span{}), still(api.Span{}, c.u), still(c.u, c.u)} {
			if e := driftAsWords(t, d, stay{at(0, 0), at(1, 1), 0, c.seconds}); e != c.e {
				t.Errorf("%v, %v, %d: %v", d.Rest.U, d.Rest.V, c.seconds, e)
			}
			if c.seconds == maxTime {
				continue
			}
			if e := driftAsWords(t, d, stay{at(0, 0), at(1, 1), maxTime - c.seconds, maxTime}); e != c.e {
				t.Errorf("%v, %v, %d: %v in the end", d.Rest.U, d.Rest.V, c.seconds, e)
			}
		}
	}
}

func TestP13_1_DriftByWords(t *testing.T) {
	random := rand.New(rand.NewSource(6))
	count := map[api.Errno]int{}
	for _, d := range editions() {
		for _, s := range stays(random, d, 200) {
			count[driftAsWords(t, d, s)]++
			count[driftAsWords(t, d, s.shorter(random))]++
			count[driftAsWords(t, d, stay{s.lo, s.hi, s.from, min(s.from+random.Intn(200), maxTime)})]++
		}
	}
	if count[api.OK] < 1000 || count[api.ErrArg] < 1000 || count[api.ErrRange] < 500 {
		t.Errorf("errors: %v", count)
	}
}

func TestP13_2_Within(t *testing.T) {
	random := rand.New(rand.NewSource(7))
	for _, d := range editions() {
		for _, s := range stays(random, d, 40) {
			bounds := mustBound(t, d, s)
			for range 20 {
				x := s.part(random)
				for _, p := range []api.Point{x.lo, x.hi, at(x.lo.X, x.hi.Y)} {
					for _, time := range []int{x.from, x.until} {
						if f := mustAt(t, d, p, time); !areWithin(f, bounds) {
							t.Fatalf("%v, %d: %v is not within %v of %v", p, time, f, bounds, s)
						}
					}
				}
			}
		}
	}
}

func TestP13_3_OnePlace(t *testing.T) {
	random := rand.New(rand.NewSource(8))
	for _, d := range editions() {
		for _, s := range stays(random, d, 100) {
			if f := mustBound(t, d, here(s.hi, s.until)); f != holds(d, s.hi, s.until) || f != mustAt(t, d, s.hi, s.until) {
				t.Fatalf("%v, %d: %v", s.hi, s.until, f)
			}
		}
	}
}

// reached says which ends of bounds have been found at a place and a time.
type reached struct {
	bounds api.Flow
	ends   [6]bool
}

func (r *reached) see(f api.Flow) {
	for i, spanOf := range []func(api.Flow) api.Span{ofU, ofV, ofHeight} {
		r.ends[2*i] = r.ends[2*i] || spanOf(f).Lo == spanOf(r.bounds).Lo
		r.ends[2*i+1] = r.ends[2*i+1] || spanOf(f).Hi == spanOf(r.bounds).Hi
	}
}

// Each end is looked for in all blocks and slots of a stay, of which there are not many.
func TestP13_3_EndsHold(t *testing.T) {
	random := rand.New(rand.NewSource(9))
	count, others := 0, 0
	for _, d := range editions() {
		for _, s := range stays(random, d, 60) {
			s.hi = at(min(s.hi.X, s.lo.X+3*blockSize), min(s.hi.Y, s.lo.Y+3*blockSize))
			s.until = min(s.until, s.from+5*slotTime)
			r := reached{bounds: mustBound(t, d, s)}
			different := map[api.Flow]bool{}
			s.visit(d, func(x api.Point, time int) bool {
				f := mustAt(t, d, x, time)
				r.see(f)
				different[f] = true
				return true
			})
			if r.ends != [6]bool{true, true, true, true, true, true} {
				t.Fatalf("%v: of the ends of %v there are %v", s, r.bounds, r.ends)
			}
			count++
			if len(different) > 2 {
				others++
			}
		}
	}
	if count < 1000 || others < 200 {
		t.Errorf("%d stays, %d with more than two bounds", count, others)
	}
}

func TestP13_4_GreaterRectangles(t *testing.T) {
	random := rand.New(rand.NewSource(10))
	less := 0
	for _, d := range editions() {
		for _, s := range stays(random, d, 100) {
			bounds := mustBound(t, d, s)
			for range 10 {
				x := s.part(random)
				f := mustBound(t, d, x)
				if !areWithin(f, bounds) {
					t.Fatalf("%v of %v is not within %v of %v", f, x, bounds, s)
				}
				if f != bounds {
					less++
				}
			}
		}
	}
	if less < 1000 {
		t.Errorf("only %d lesser bounds", less)
	}
}

// Places one by one, and seconds one by one, around the corner of a block and the end of a slot.
func TestP13_4_OneByOne(t *testing.T) {
	random := rand.New(rand.NewSource(11))
	d := fastest(maxFlow).edition(random, 3600, 2, upTo(-1, 0), upTo(-1, 0), upTo(0, 1), 100)
	for n := range 4 {
		inner := stay{at(1-n, 1-n), at(1, 1), 7202 - n, 7202}
		for _, outer := range []stay{
			{at(-n, 1-n), at(1, 1), 7202 - n, 7202}, {at(1-n, -n), at(1, 1), 7202 - n, 7202}, {at(1-n, 1-n), at(2, 1), 7202 - n, 7202},
			{at(1-n, 1-n), at(1, 2), 7202 - n, 7202}, {at(1-n, 1-n), at(1, 1), 7201 - n, 7202}, {at(1-n, 1-n), at(1, 1), 7202 - n, 7203},
		} {
			if f, bounds := mustBound(t, d, inner), mustBound(t, d, outer); !areWithin(f, bounds) {
				t.Errorf("%v of %v is not within %v of %v", f, inner, bounds, outer)
			}
		}
	}
}

// carry returns how many millimetres somebody is carried who meets, each second, the current that choose takes from the bounds there and then.
func carry(d api.Tide, x api.Point, from, until int, choose func(s api.Span) int) (east, north int) {
	for time := from; time < until; time++ {
		f := holds(d, at(x.X+down(east, 100), x.Y+down(north, 100)), time)
		east, north = east+choose(f.U), north+choose(f.V)
	}
	return east, north
}

// Somebody is carried through several blocks and slots of a rectangle, always at the least speed, at the greatest, or at any.
func TestP13_5_Carried(t *testing.T) {
	random := rand.New(rand.NewSource(12))
	chooses := []func(s api.Span) int{
		func(s api.Span) int { return s.Lo }, func(s api.Span) int { return s.Hi },
		func(s api.Span) int { return s.Lo + random.Intn(s.Hi-s.Lo+1) },
	}
	blocks := 0
	for range 60 {
		d := fastest(200+random.Intn(800)).edition(random, 3600, 3, upTo(-1, 0), upTo(-1, 0), upTo(0, 2), 60)
		from := 3500 + random.Intn(9000)
		until := from + random.Intn(1500)
		x := at(random.Intn(4000)-2000, random.Intn(4000)-2000)
		lo, hi := mustDrift(t, d, stay{at(x.X-maxLasts, x.Y-maxLasts), at(x.X+maxLasts, x.Y+maxLasts), from, until})
		for _, choose := range chooses {
			east, north := carry(d, x, from, until, choose)
			if !inOrder(100*lo.X, east, 100*hi.X) || !inOrder(100*lo.Y, north, 100*hi.Y) {
				t.Fatalf("%v from %d to %d: %d, %d is not in %v to %v", x, from, until, east, north, lo, hi)
			}
			if down(x.X, blockSize) != down(x.X+down(east, 100), blockSize) {
				blocks++
			}
		}
	}
	if blocks < 20 {
		t.Errorf("only %d were carried to another block", blocks)
	}
}

// Whatever currents within the bounds follow each other, and for each end of the drift there are some that carry somebody nearly there: by less than 1.
func TestP13_5_AnyCurrents(t *testing.T) {
	random := rand.New(rand.NewSource(13))
	for _, d := range editions() {
		for _, s := range stays(random, d, 10) {
			s.until = min(s.until, s.from+random.Intn(1000))
			f := mustBound(t, d, s)
			lo, hi := mustDrift(t, d, s)
			seconds := s.until - s.from
			for _, c := range []struct {
				s      api.Span
				lo, hi int
			}{{f.U, lo.X, hi.X}, {f.V, lo.Y, hi.Y}} {
				sum := 0
				for range seconds {
					sum += c.s.Lo + random.Intn(c.s.Hi-c.s.Lo+1)
				}
				if !inOrder(100*c.lo, seconds*c.s.Lo, sum, seconds*c.s.Hi, 100*c.hi) || seconds*c.s.Lo-100*c.lo >= 100 || 100*c.hi-seconds*c.s.Hi >= 100 {
					t.Fatalf("%v: %v carries from %d to %d, by %d", s, c.s, c.lo, c.hi, sum)
				}
			}
		}
	}
}

// divided checks P13.6 for an edition without flows, and returns how much wider the sums are, at most.
func divided(t *testing.T, d api.Tide, x api.Point, from, middle, until int) int {
	t.Helper()
	lo, hi := mustDrift(t, d, stay{x, x, from, until})
	firstLo, firstHi := mustDrift(t, d, stay{x, x, from, middle})
	secondLo, secondHi := mustDrift(t, d, stay{x, x, middle, until})
	sumLo, sumHi := at(firstLo.X+secondLo.X, firstLo.Y+secondLo.Y), at(firstHi.X+secondHi.X, firstHi.Y+secondHi.Y)
	if !inOrder(sumLo.X, lo.X, hi.X, sumHi.X) || !inOrder(sumLo.Y, lo.Y, hi.Y, sumHi.Y) {
		t.Fatalf("%v, %d, %d, %d: %v to %v is not within the sums, %v to %v", d.Rest, from, middle, until, lo, hi, sumLo, sumHi)
	}
	wider := max((sumHi.X-sumLo.X)-(hi.X-lo.X), (sumHi.Y-sumLo.Y)-(hi.Y-lo.Y))
	if wider > 2 {
		t.Fatalf("%v, %d, %d, %d: %v to %v is %d less wide than the sums", d.Rest, from, middle, until, lo, hi, wider)
	}
	return wider
}

func TestP13_6_OneAfterTheOther(t *testing.T) {
	random := rand.New(rand.NewSource(14))
	count := map[int]int{}
	for range 20000 {
		most := fastest([]int{500, 50, 150}[random.Intn(3)])
		d := most.edition(random, random.Intn(maxTime), random.Intn(maxSlots+1), nil, nil, nil, 0)
		if random.Intn(2) > 0 {
			d.Rest.U, d.Rest.V = spanned(-random.Intn(500), random.Intn(500)), spanned(-random.Intn(500), random.Intn(500))
		}
		lasts := []int{200, 5000, maxLasts}[random.Intn(3)]
		from := random.Intn(maxTime - lasts)
		until := from + random.Intn(lasts+1)
		middle := from + random.Intn(until-from+1)
		count[divided(t, d, at(random.Intn(maxCoord), 0), from, middle, until)]++
	}
	if count[0] < 500 || count[1] < 500 || count[2] < 500 {
		t.Errorf("how much wider sums are: %v", count)
	}
}

// All slow currents, and all short times.
func TestP13_6_AllShortTimes(t *testing.T) {
	for _, u := range []api.Span{spanned(0, 0), spanned(-1, 1), spanned(-50, 50), spanned(-99, 101), spanned(-33, 67), spanned(100, 100), spanned(1, 1), spanned(-1, -1), spanned(49, 51)} {
		d := still(u, spanned(-u.Hi, -u.Lo))
		for until := range 13 {
			for middle := range until + 1 {
				divided(t, d, at(0, 0), 0, middle, until)
			}
		}
	}
	if wider := divided(t, still(spanned(-1, 1), api.Span{}), at(0, 0), 0, 1, 2); wider != 2 {
		t.Errorf("two seconds are %d less wide than two times one second", wider)
	}
}

// different returns an edition in which the flows that elsewhere picks are others: they have other bounds, or are left out.
func different(random *rand.Rand, d api.Tide, elsewhere func(f api.Flow) bool) api.Tide {
	return changed(d, func(d *api.Tide) {
		leave := random.Intn(2) > 0
		l := d.Flows[:0]
		for _, f := range d.Flows {
			if elsewhere(f) {
				b := fastest(maxFlow).bounds(random)
				f.U, f.V, f.Height = b.U, b.V, b.Height
			}
			if !leave || !elsewhere(f) || random.Intn(3) > 0 {
				l = append(l, f)
			}
		}
		d.Flows = l
	})
}

func TestP13_7_Elsewhere(t *testing.T) {
	random := rand.New(rand.NewSource(15))
	count := 0
	for _, d := range editions() {
		for _, s := range stays(random, d, 30) {
			s = s.shorter(random)
			other := different(random, d, func(f api.Flow) bool { return !s.has(d, f) })
			f, e := s.bound(d)
			g, otherE := s.bound(other)
			p, driftE := s.drift(d)
			q, otherDriftE := s.drift(other)
			if f != g || e != otherE || !slices.Equal(p, q) || driftE != otherDriftE {
				t.Fatalf("%v: %v became %v, and %v became %v", s, f, g, p, q)
			}
			if mustAt(t, d, s.hi, s.until) != mustAt(t, other, s.hi, s.until) {
				t.Fatalf("%v, %d: %v became %v", s.hi, s.until, mustAt(t, d, s.hi, s.until), mustAt(t, other, s.hi, s.until))
			}
			if slices.ContainsFunc(d.Flows, func(f api.Flow) bool { return s.has(d, f) }) {
				count++
			}
		}
	}
	if count < 300 {
		t.Errorf("only %d stays have a flow", count)
	}
}

// Of one block's neighbours, and of the slots before and behind, none plays a part; if there are no others, Rest plays none either.
func TestP13_7_Neighbours(t *testing.T) {
	random := rand.New(rand.NewSource(16))
	d := fastest(maxFlow).edition(random, 0, 3, upTo(-1, 1), upTo(-1, 1), upTo(0, 2), 100)
	whole := stay{at(0, 0), at(9999, 9999), 3600, 7199}
	want := mustBound(t, d, whole)
	for i := range d.Flows {
		f := fastest(maxFlow).bounds(random)
		other := changed(d, func(d *api.Tide) { d.Flows[i].U, d.Flows[i].V, d.Flows[i].Height = f.U, f.V, f.Height })
		mine := keyOf(d.Flows[i]) == [3]int{1, 0, 0}
		if got := mustBound(t, other, whole); (got == want) == mine || mine && got != f {
			t.Errorf("flow %d: %v became %v", i, want, got)
		}
	}
	d.Rest = fastest(maxFlow).bounds(random)
	if got := mustBound(t, d, whole); got != want {
		t.Errorf("Rest: %v became %v", want, got)
	}
}

func TestP1_AllArgumentsEnd(t *testing.T) {
	numbers := []int{math.MinInt, math.MinInt + 1, -maxTime, -maxCoord - 1, -maxCoord, -5001, -51, -50, -1, 0, 0, 0, 1, 2, 50, 51, 2000, 2001, 3600, 5000, 5001, maxCoord, maxCoord + 1, maxTime, maxTime + 1, math.MaxInt - 1, math.MaxInt}
	random := rand.New(rand.NewSource(17))
	number := func() int { return numbers[random.Intn(len(numbers))] }
	point := func() api.Point { return at(number(), number()) }
	spanOfAny := func() api.Span { return spanned(number(), number()) }
	for range 100000 {
		d := api.Tide{Version: number(), From: number(), Slots: number(), Rest: flow(number(), number(), number(), spanOfAny(), spanOfAny(), spanOfAny())}
		if random.Intn(2) > 0 {
			d = example()
		}
		for range random.Intn(3) {
			d.Flows = append(d.Flows, flow(number(), number(), number(), spanOfAny(), spanOfAny(), spanOfAny()))
		}
		s := stay{point(), point(), number(), number()}
		if random.Intn(2) > 0 {
			s = stay{at(-5, -6), at(7, 8), number(), number()}
		}
		if Valid(d) != isEdition(d) {
			t.Fatalf("Valid(%v) is not %t", d, isEdition(d))
		}
		boundAsWords(t, d, s)
		driftAsWords(t, d, s)
		f, e := At(d, s.lo, s.from)
		if want, saidE := saidBound(d, here(s.lo, s.from)); f != want || e != saidE {
			t.Fatalf("At(%v, %v, %d): %v, %v", d, s.lo, s.from, f, e)
		}
	}
}

// The greatest rectangle, for the greatest time, has more than two thousand million blocks and slots.
func TestP1_Largest(t *testing.T) {
	all := stay{at(-maxCoord, -maxCoord), at(maxCoord, maxCoord), 0, maxTime}
	for _, d := range editions() {
		l := []api.Flow{d.Rest}
		for _, f := range d.Flows {
			if d.From+f.Slot*slotTime <= maxTime {
				l = append(l, f)
			}
		}
		if f := mustBound(t, d, all); f != least(l) {
			t.Errorf("%d flows: %v instead of %v", len(d.Flows), f, least(l))
		}
	}
	d := api.Tide{Version: 1, Slots: 1, Flows: make([]api.Flow, 1000000)}
	if f, e := all.bound(d); Valid(d) || f != (api.Flow{}) || e != api.ErrArg {
		t.Error("a million flows are a table")
	}
}

// No state is kept, and flows stay as they are, also where there is room around them.
func TestP1_ArgumentsAlone(t *testing.T) {
	random := rand.New(rand.NewSource(18))
	for _, d := range editions() {
		around := slices.Concat(bases()[0].Flows, d.Flows, bases()[1].Flows)
		before := slices.Clone(around)
		n := len(bases()[0].Flows)
		roomy := d
		roomy.Flows = around[n : n+len(d.Flows)]
		for _, s := range stays(random, d, 20) {
			s = s.shorter(random)
			f, p := mustBound(t, roomy, s), mustAt(t, roomy, s.lo, s.from)
			q, e := s.drift(roomy)
			mustBound(t, example(), s)
			again, againE := s.drift(d)
			if f != mustBound(t, d, s) || p != mustAt(t, d, s.lo, s.from) || !slices.Equal(q, again) || e != againE {
				t.Fatalf("%v: something else the second time", s)
			}
			if len(q) > 0 {
				q[0] = at(1, 2)
				if third, _ := s.drift(d); !slices.Equal(third, again) {
					t.Fatalf("%v: %v became %v", s, again, third)
				}
			}
		}
		if !slices.Equal(around, before) {
			t.Fatalf("%v became %v", before, around)
		}
	}
}

// Blocks can be left at each of them.
func TestP1_BlocksAreLeft(t *testing.T) {
	d := editions()[3]
	all := func(n int) []api.Flow {
		var l []api.Flow
		for f := range blocks(d, spot{-1, -3, -3}, spot{9, 9, 9}) {
			l = append(l, f)
			if len(l) == n {
				break
			}
		}
		return l
	}
	whole := append(slices.Clone(d.Flows), d.Rest)
	for n := 1; n <= len(whole); n++ {
		if l := all(n); !slices.Equal(l, whole[:n]) {
			t.Errorf("the first %d: %v", n, l)
		}
	}
}
