package table

import (
	"math"
	"math/rand"
	"slices"
	"testing"

	"landfall/api"
)

// found is what Find returned.
type found struct {
	part, turn int
	e          api.Errno
}

func find(rows []api.Row, u use) found {
	part, turn, e := Find(rows, u.temp, u.age, u.since)
	return found{part, turn, e}
}

// asWords checks Find against the chapter's words, and returns which row was found (-1 for none).
func asWords(t *testing.T, rows []api.Row, u use) int {
	t.Helper()
	part, turn, e, at := said(rows, u)
	if f := find(rows, u); f != (found{part, turn, e}) {
		t.Fatalf("Find(%v, %v): %v instead of %v", rows, u, f, found{part, turn, e})
	}
	return at
}

// sameForAll checks that two tables say the same for all uses, or for those for which one of them has a row.
func sameForAll(t *testing.T, rows, others []api.Row, alsoNone bool) {
	t.Helper()
	if !Valid(rows) || !Valid(others) {
		t.Fatalf("%v or %v is no table", rows, others)
	}
	for _, u := range usesOf(slices.Concat(rows, others)) {
		f := find(rows, u)
		if other := find(others, u); f != other && (alsoNone || f.e != api.ErrNone) {
			t.Fatalf("for %v, %v says %v, and %v says %v", u, rows, f, others, other)
		}
	}
}

func TestP12_1_Limits(t *testing.T) {
	if api.MaxTemp != maxTemp || api.MaxAge != maxAge || api.MaxTime != maxSince || api.MaxPart != maxPart || api.MaxTurn != maxTurn || api.MaxRows != maxRows {
		t.Error("the limits are not the chapter's")
	}
}

func TestP12_1_ValidRows(t *testing.T) {
	for _, x := range append(corners(), examples()...) {
		if !Valid([]api.Row{x}) {
			t.Errorf("%v is no table", x)
		}
	}
	for _, x := range wrongRows() {
		if isRow(x) || Valid([]api.Row{x}) {
			t.Errorf("%v is a table", x)
		}
	}
}

func TestP12_1_ValidNumbers(t *testing.T) {
	check := func(x api.Row) {
		t.Helper()
		if Valid([]api.Row{x}) != isRow(x) {
			t.Errorf("Valid(%v) is not %t", x, isRow(x))
		}
	}
	for n := -1100; n <= 11000; n++ {
		check(row(n, 5, 0, 0, 0, 0))
		check(row(5, n, 0, 0, 0, 0))
		check(row(n, n, 0, 0, 0, 0))
		check(row(-n, n, 0, 0, 0, 0))
		check(row(0, 5, n, 0, 0, 0))
		check(row(0, 5, 0, n, 0, 0))
		check(row(0, 5, 0, maxSince+n, 0, 0))
		check(row(0, 5, 0, 0, n, 0))
		check(row(0, 5, 0, 0, 0, n))
	}
}

// A row is as wrong behind right ones as before them.
func TestP12_1_ValidPlaces(t *testing.T) {
	for n := 1; n <= maxRows; n++ {
		rows := make([]api.Row, n)
		for i := range rows {
			for _, x := range []api.Row{row(6, 5, 0, 0, 0, 0), row(0, 0, 0, 0, 0, 9), row(0, 0, maxAge+1, 0, 0, 0)} {
				before := rows[i]
				rows[i] = x
				if Valid(rows) || find(rows, use{}) != (found{0, 0, api.ErrArg}) {
					t.Errorf("row %d of %d: %v is right", i, n, x)
				}
				rows[i] = before
			}
		}
	}
}

func TestP12_1_ValidLengths(t *testing.T) {
	for n := range 200 {
		rows := make([]api.Row, n)
		for i := range rows {
			rows[i] = row(0, 5, 10, 60, 5, 1)
		}
		want := found{5, 1, api.OK}
		if n == 0 {
			want = found{0, 0, api.ErrNone}
		} else if n > maxRows {
			want = found{0, 0, api.ErrArg}
		}
		if Valid(rows) != (n <= maxRows) || find(rows, use{}) != want {
			t.Errorf("%d rows: %t, %v", n, Valid(rows), find(rows, use{}))
		}
	}
	if !Valid(nil) || !Valid([]api.Row{}) {
		t.Error("no rows are no table")
	}
}

func TestP12_1_FindExamples(t *testing.T) {
	for u, want := range map[use]found{
		{20, 10, 60}: {5, 0, api.OK}, {20, 11, 60}: {20, 1, api.OK}, {201, 0, 0}: {0, 0, api.ErrNone}, {20, 10, 61}: {20, 1, api.OK},
		{0, 0, 0}: {5, 0, api.OK}, {100, 10, 60}: {5, 0, api.OK}, {-1, 0, 0}: {20, 1, api.OK}, {101, 0, 0}: {20, 1, api.OK},
		{-50, 1000, 3600}: {20, 1, api.OK}, {200, 1000, 3600}: {20, 1, api.OK}, {-51, 0, 0}: {0, 0, api.ErrNone}, {20, 1001, 0}: {0, 0, api.ErrNone}, {20, 0, 3601}: {0, 0, api.ErrNone},
		{maxTemp, maxAge, maxSince}: {0, 0, api.ErrNone}, {-maxTemp, maxAge, maxSince}: {0, 0, api.ErrNone},
	} {
		if f := find(examples(), u); f != want {
			t.Errorf("%v: %v instead of %v", u, f, want)
		}
	}
}

func TestP12_1_FindByWords(t *testing.T) {
	for _, rows := range tables() {
		for _, u := range usesOf(rows) {
			asWords(t, rows, u)
		}
	}
	random := rand.New(rand.NewSource(2))
	for range 200 {
		var rows []api.Row
		for range random.Intn(maxRows + 1) {
			rows = append(rows, limits{maxTemp, maxAge, maxSince}.row(random))
		}
		for range 1000 {
			asWords(t, rows, use{random.Intn(2*maxTemp+1) - maxTemp, random.Intn(maxAge + 1), random.Intn(maxSince + 1)})
		}
	}
}

// Each of a row's limits is the first not to be kept, and is just kept, while the others are kept with room.
func TestP12_1_FindLimits(t *testing.T) {
	for _, x := range []api.Row{row(-20, 30, 100, 200, 7, 3), row(-20, -20, 1, 1, 7, 3), row(-900, 900, 9000, 900000000, 7, 3)} {
		lo, hi, is, none := x.Temp.Lo, x.Temp.Hi, found{7, 3, api.OK}, found{0, 0, api.ErrNone}
		for u, want := range map[use]found{
			{lo, 0, 0}: is, {hi, 0, 0}: is, {lo, x.Age, 0}: is, {lo, 0, x.Since}: is, {hi, x.Age, x.Since}: is,
			{lo - 1, 0, 0}: none, {hi + 1, 0, 0}: none, {lo, x.Age + 1, 0}: none, {lo, 0, x.Since + 1}: none, {hi, x.Age + 1, x.Since}: none, {hi, x.Age, x.Since + 1}: none,
		} {
			if f := find([]api.Row{x}, u); f != want {
				t.Errorf("%v for %v: %v instead of %v", x, u, f, want)
			}
		}
	}
}

// A row that is for no use before it can be the last of 50, and can say 0 and 0.
func TestP12_1_FindLast(t *testing.T) {
	rows := make([]api.Row, maxRows)
	for i := range rows {
		rows[i] = row(-i-1, -i-1, i, i, i, i%9)
	}
	for i, x := range rows {
		if f := find(rows, use{-i - 1, i, i}); f != (found{x.Part, x.Turn, api.OK}) {
			t.Errorf("row %d: %v", i, f)
		}
	}
}

func TestP12_1_FindErrors(t *testing.T) {
	refused := found{0, 0, api.ErrArg}
	for _, x := range wrongRows() {
		// Neither a right row before it, nor one behind it, nor a use that is none, changes the error.
		for _, rows := range [][]api.Row{{x}, append(examples(), x), append([]api.Row{x}, examples()...)} {
			for _, u := range []use{{20, 10, 60}, {}, {maxTemp, maxAge, maxSince}, {maxTemp + 1, 0, 0}} {
				if f := find(rows, u); f != refused {
					t.Fatalf("Find(%v, %v): %v", rows, u, f)
				}
			}
		}
	}
	for _, u := range wrongUses() {
		for _, rows := range [][]api.Row{nil, examples(), corners()} {
			if f := find(rows, u); u.isRight() || f != refused {
				t.Fatalf("Find(%v, %v): %v", rows, u, f)
			}
		}
	}
}

func TestP12_1_FindNothing(t *testing.T) {
	for _, u := range someUses([]int{-maxTemp, 0, maxTemp}, []int{0, maxAge}, []int{0, maxSince}) {
		for _, rows := range [][]api.Row{nil, {}, {row(1, 2, maxAge, maxSince, 5, 5)}} {
			if f := find(rows, u); f != (found{0, 0, api.ErrNone}) {
				t.Errorf("Find(%v, %v): %v", rows, u, f)
			}
		}
	}
}

func TestP12_2_FirstOne(t *testing.T) {
	count := map[bool]int{}
	for _, rows := range tables() {
		for _, u := range usesOf(rows) {
			f := find(rows, u)
			at := slices.IndexFunc(rows, func(x api.Row) bool { return x.Part == f.part })
			if f.e == api.ErrNone {
				at = len(rows)
			} else if !u.has(rows[at]) || rows[at].Turn != f.turn {
				t.Fatalf("for %v, %v says %v", u, rows, f)
			}
			if slices.ContainsFunc(rows[:at], u.has) {
				t.Fatalf("for %v, %v says %v, and has a row before that", u, rows, f)
			}
			count[f.e == api.OK && slices.ContainsFunc(rows[at+1:], u.has)]++
		}
	}
	if count[true] < 10000 || count[false] < 10000 {
		t.Errorf("uses with more than one row, and others: %v", count)
	}
}

// Rows that are the same but for what they say: the first one says it.
func TestP12_2_SameUses(t *testing.T) {
	for n := 1; n <= maxRows; n++ {
		rows := make([]api.Row, n)
		for i := range rows {
			rows[i] = row(-10, 10, 5, 5, (7*n+i*11)%501, (n+i)%9)
		}
		if f := find(rows, use{3, 4, 5}); f != (found{7 * n, n % 9, api.OK}) {
			t.Errorf("%d rows: %v", n, f)
		}
	}
}

func TestP12_3_FurtherRows(t *testing.T) {
	random := rand.New(rand.NewSource(3))
	for _, rows := range tables() {
		if len(rows) == 0 {
			continue
		}
		for _, further := range [][]api.Row{corners(), examples(), rows, {limits{3, 3, 3}.row(random)}, {row(-maxTemp, maxTemp, maxAge, maxSince, 0, 0)}} {
			sameForAll(t, rows, slices.Concat(rows, further), false)
		}
	}
}

// A table can become longer row by row, up to 50 of them.
func TestP12_3_RowByRow(t *testing.T) {
	random := rand.New(rand.NewSource(5))
	rows := make([]api.Row, maxRows)
	for i := range rows {
		rows[i] = limits{maxTemp, maxAge, maxSince}.row(random)
	}
	for range 2000 {
		u := use{random.Intn(2*maxTemp+1) - maxTemp, random.Intn(maxAge + 1), random.Intn(maxSince + 1)}
		before := find(nil, u)
		for n := 1; n <= maxRows; n++ {
			f := find(rows[:n], u)
			if f != before && before.e == api.OK {
				t.Fatalf("for %v, %v says %v, and %v without the last row", u, rows[:n], f, before)
			}
			before = f
		}
	}
}

// Where there was no row, a further one can say something.
func TestP12_3_FurtherUses(t *testing.T) {
	u := use{201, 0, 0}
	rows := append(examples(), row(201, 201, 0, 0, 9, 4))
	if find(examples(), u).e != api.ErrNone || find(rows, u) != (found{9, 4, api.OK}) {
		t.Errorf("%v, then %v", find(examples(), u), find(rows, u))
	}
}

func TestP12_4_SayNothing(t *testing.T) {
	count := 0
	for _, rows := range tables() {
		for at, x := range rows {
			idle := slices.ContainsFunc(rows[:at], func(other api.Row) bool {
				return other.Temp.Lo <= x.Temp.Lo && x.Temp.Hi <= other.Temp.Hi && x.Age <= other.Age && x.Since <= other.Since
			})
			if idle {
				count++
				sameForAll(t, rows, without(rows, at), true)
			}
		}
	}
	if count < 500 {
		t.Errorf("only %d rows say nothing", count)
	}
}

// A row that is for one use more than the one before it cannot be left out.
func TestP12_4_SaySomething(t *testing.T) {
	first := row(0, 100, 10, 60, 5, 0)
	for x, u := range map[api.Row]use{
		row(-1, 100, 10, 60, 6, 1): {-1, 10, 60}, row(0, 101, 10, 60, 6, 1): {101, 10, 60}, row(0, 100, 11, 60, 6, 1): {50, 11, 60}, row(0, 100, 10, 61, 6, 1): {50, 10, 61},
	} {
		if f := find([]api.Row{first, x}, u); f != (found{6, 1, api.OK}) || find([]api.Row{first}, u).e != api.ErrNone {
			t.Errorf("%v behind %v, for %v: %v", x, first, u, f)
		}
	}
}

func TestP12_5_Dividing(t *testing.T) {
	for _, rows := range tables() {
		for at, x := range rows {
			lo, hi := x.Temp.Lo, x.Temp.Hi
			for _, m := range []int{lo, lo + 1, (lo + hi) / 2, hi - 1} {
				if m < lo || m >= hi {
					continue
				}
				low, high := api.Span{Lo: lo, Hi: m}, api.Span{Lo: m + 1, Hi: hi}
				sameForAll(t, rows, divided(rows, at, low, high), true)
				sameForAll(t, rows, divided(rows, at, high, low), true)
				sameForAll(t, rows, divided(rows, at, low, x.Temp), true)
				sameForAll(t, rows, divided(rows, at, api.Span{Lo: lo, Hi: m + 1}, api.Span{Lo: m, Hi: hi}), true)
			}
		}
	}
}

// A row for all temperatures can be divided until there are 50, one of which alone has a temperature.
func TestP12_5_Fifty(t *testing.T) {
	rows := []api.Row{row(-maxTemp, maxTemp, 10, 60, 5, 1)}
	for len(rows) < maxRows {
		lo := rows[len(rows)-1].Temp.Lo
		rows = divided(rows, len(rows)-1, api.Span{Lo: lo, Hi: lo}, api.Span{Lo: lo + 1, Hi: maxTemp})
	}
	for temp := -maxTemp; temp <= maxTemp; temp++ {
		if f := find(rows, use{temp, 10, 60}); f != (found{5, 1, api.OK}) {
			t.Errorf("%d: %v", temp, f)
		}
	}
}

func TestP12_6_LessUsed(t *testing.T) {
	for _, rows := range tables() {
		for _, u := range usesOf(rows) {
			at := asWords(t, rows, u)
			if at < 0 {
				continue
			}
			for _, less := range []use{{u.temp, 0, u.since}, {u.temp, u.age, 0}, {u.temp, 0, 0}, {u.temp, u.age / 2, u.since}, {u.temp, u.age, u.since / 2}, {u.temp, u.age / 2, u.since / 3}, {u.temp, max(u.age-1, 0), max(u.since-1, 0)}} {
				if i := asWords(t, rows, less); i < 0 || i > at {
					t.Fatalf("for %v, %v has row %d, and for %v row %d", u, rows, at, less, i)
				}
			}
		}
	}
}

func TestP12_7_Order(t *testing.T) {
	count := 0
	for _, rows := range tables() {
		for at := range max(len(rows)-1, 0) {
			x, y := rows[at].Temp, rows[at+1].Temp
			if x.Hi < y.Lo || y.Hi < x.Lo {
				count++
				sameForAll(t, rows, swapped(rows, at), true)
			}
		}
	}
	if count < 300 {
		t.Errorf("only %d neighbours have no common temperature", count)
	}
}

// With a common temperature, the order says what is found.
func TestP12_7_CommonTemperature(t *testing.T) {
	rows := []api.Row{row(0, 50, 10, 60, 5, 0), row(50, 100, 10, 60, 6, 1)}
	if f, other := find(rows, use{50, 10, 60}), find(swapped(rows, 0), use{50, 10, 60}); f != (found{5, 0, api.OK}) || other != (found{6, 1, api.OK}) {
		t.Errorf("%v, and %v the other way round", f, other)
	}
	rows[1].Temp.Lo = 51
	sameForAll(t, rows, swapped(rows, 0), true)
}

func TestP1_AllArgumentsEnd(t *testing.T) {
	numbers := []int{math.MinInt, math.MinInt + 1, -maxSince, -maxTemp - 1, -maxTemp, -1, 0, 1, 8, 9, 500, 501, maxTemp, maxTemp + 1, maxAge, maxAge + 1, maxSince, maxSince + 1, math.MaxInt - 1, math.MaxInt}
	random := rand.New(rand.NewSource(4))
	number := func() int { return numbers[random.Intn(len(numbers))] }
	for range 200000 {
		var rows []api.Row
		for range random.Intn(3) {
			rows = append(rows, row(number(), number(), number(), number(), number(), number()))
		}
		asWords(t, rows, use{number(), number(), number()})
		if Valid(rows) != isTable(rows) {
			t.Fatalf("Valid(%v) is not %t", rows, isTable(rows))
		}
	}
	if rows := make([]api.Row, 1000000); Valid(rows) || find(rows, use{}) != (found{0, 0, api.ErrArg}) {
		t.Error("a million rows are a table")
	}
}

// No state is kept, and tables stay as they are, also where there is room around them.
func TestP1_ArgumentsAlone(t *testing.T) {
	for _, rows := range tables() {
		around := slices.Concat(examples(), rows, corners())
		before := slices.Clone(around)
		roomy := around[2 : 2+len(rows)]
		for _, u := range usesOf(rows)[:5] {
			f := find(roomy, u)
			find(corners(), u)
			if f != find(rows, u) || f != find(slices.Clone(rows), u) || !Valid(roomy) {
				t.Fatalf("for %v, %v says something else the second time", u, rows)
			}
		}
		if !slices.Equal(around, before) {
			t.Fatalf("%v became %v", before, around)
		}
	}
}
