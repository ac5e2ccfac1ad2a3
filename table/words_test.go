package table

import (
	"math"
	"math/rand"
	"slices"

	"landfall/api"
)

// What the tests ask for, and what the chapter says of that, computed without package table.

const (
	maxTemp  = 1000
	maxAge   = 10000
	maxSince = 1000000000
	maxPart  = 500
	maxTurn  = 8
	maxRows  = 50
)

type use struct{ temp, age, since int }

func row(lo, hi, age, since, part, turn int) api.Row {
	return api.Row{Temp: api.Span{Lo: lo, Hi: hi}, Age: age, Since: since, Part: part, Turn: turn}
}

func between(lo, n, hi int) bool { return slices.IsSorted([]int{lo, n, hi}) }

func isRow(x api.Row) bool {
	return between(-maxTemp, x.Temp.Lo, x.Temp.Hi) && between(x.Temp.Lo, x.Temp.Hi, maxTemp) && between(0, x.Age, maxAge) && between(0, x.Since, maxSince) && between(0, x.Part, maxPart) && between(0, x.Turn, maxTurn)
}

func isTable(rows []api.Row) bool {
	for _, x := range rows {
		if !isRow(x) {
			return false
		}
	}
	return len(rows) <= maxRows
}

func (u use) isRight() bool {
	return between(-maxTemp, u.temp, maxTemp) && between(0, u.age, maxAge) && between(0, u.since, maxSince)
}

func (u use) has(x api.Row) bool {
	return between(x.Temp.Lo, u.temp, x.Temp.Hi) && u.age <= x.Age && u.since <= x.Since
}

// said returns what Find has to return, and which row says it (-1 for none).
func said(rows []api.Row, u use) (part, turn int, e api.Errno, at int) {
	if !isTable(rows) || !u.isRight() {
		return 0, 0, api.ErrArg, -1
	}
	e, at = api.ErrNone, -1
	// From the last row on, so that each one that is for the use takes the place of those behind it.
	for i := len(rows) - 1; i >= 0; i-- {
		if u.has(rows[i]) {
			part, turn, e, at = rows[i].Part, rows[i].Turn, api.OK, i
		}
	}
	return part, turn, e, at
}

// someUses has all uses with a few temperatures, ages and times.
func someUses(temps, ages, sinces []int) []use {
	var l []use
	for _, temp := range temps {
		for _, age := range ages {
			for _, since := range sinces {
				l = append(l, use{temp, age, since})
			}
		}
	}
	return l
}

// usesOf has the right uses next to all limits of a table, on both sides of them.
func usesOf(rows []api.Row) []use {
	temps, ages, sinces := []int{-maxTemp, 0, maxTemp}, []int{0, maxAge}, []int{0, maxSince}
	for _, x := range rows {
		temps = append(temps, x.Temp.Lo-1, x.Temp.Lo, x.Temp.Hi, x.Temp.Hi+1)
		ages = append(ages, x.Age-1, x.Age, x.Age+1)
		sinces = append(sinces, x.Since-1, x.Since, x.Since+1)
	}
	for _, l := range []*[]int{&temps, &ages, &sinces} {
		slices.Sort(*l)
		*l = slices.Compact(*l)
	}
	return slices.DeleteFunc(someUses(temps, ages, sinces), func(u use) bool { return !u.isRight() })
}

// limits says from where a table's numbers are taken at random.
type limits struct{ temp, age, since int }

func (l limits) row(random *rand.Rand) api.Row {
	temps := []int{random.Intn(2*l.temp+1) - l.temp, random.Intn(2*l.temp+1) - l.temp}
	slices.Sort(temps)
	return row(temps[0], temps[1], random.Intn(l.age+1), random.Intn(l.since+1), random.Intn(maxPart+1), random.Intn(maxTurn+1))
}

// tables has tables of a few rows, no two of which have the same Part: most have numbers so small that many rows are for the same uses.
func tables() [][]api.Row {
	l := [][]api.Row{nil, examples(), corners()}
	random := rand.New(rand.NewSource(1))
	add := func(n int, from limits) {
		rows := make([]api.Row, n)
		for i := range rows {
			rows[i] = from.row(random)
		}
		l = append(l, withOwnParts(rows))
	}
	for i := range 40 {
		for n := range 8 {
			add(n+1, limits{3, 3, 3})
			add(n+1, limits{1, 2, 2})
		}
		add(i%4+1, limits{maxTemp, maxAge, maxSince})
	}
	return l
}

// withOwnParts returns a table with other Parts, by which the rows can be told from each other: those of neighbours go up and down.
func withOwnParts(rows []api.Row) []api.Row {
	rows = slices.Clone(rows)
	for i := range rows {
		rows[i].Part = (i*37 + 11) % (maxPart + 1)
	}
	return rows
}

// examples has the rows of the chapter's examples.
func examples() []api.Row {
	return []api.Row{row(0, 100, 10, 60, 5, 0), row(-50, 200, 1000, 3600, 20, 1)}
}

// corners has rows with the least and the greatest numbers that a row can have.
func corners() []api.Row {
	return []api.Row{
		row(-maxTemp, -maxTemp, 0, 0, 0, 0), row(maxTemp, maxTemp, 0, 0, maxPart, maxTurn), row(-maxTemp, 0, maxAge, 0, 1, maxTurn), row(0, maxTemp, 0, maxSince, 2, 0),
		row(0, 0, maxAge, maxSince, 3, 1), row(-maxTemp, maxTemp, 0, 0, 4, 2), row(-maxTemp, maxTemp, maxAge, maxSince, 499, 7),
	}
}

// wrongRows has rows of which exactly one number is wrong, or Lo is above Hi.
func wrongRows() []api.Row {
	var l []api.Row
	for _, x := range append(corners(), examples()...) {
		for _, c := range []struct {
			set    func(int)
			lo, hi int
		}{
			{func(n int) { x.Temp.Lo = n }, -maxTemp, x.Temp.Hi}, {func(n int) { x.Temp.Hi = n }, x.Temp.Lo, maxTemp},
			{func(n int) { x.Age = n }, 0, maxAge}, {func(n int) { x.Since = n }, 0, maxSince}, {func(n int) { x.Part = n }, 0, maxPart}, {func(n int) { x.Turn = n }, 0, maxTurn},
		} {
			before := x
			for _, n := range outside(c.lo, c.hi) {
				c.set(n)
				l = append(l, x)
				x = before
			}
		}
	}
	return append(l, row(maxTemp, -maxTemp, 0, 0, 0, 0), row(1, 0, maxAge, maxSince, 0, 0), row(maxTemp+1, maxTemp+1, 0, 0, 0, 0), row(-maxTemp-1, -maxTemp-1, 0, 0, 0, 0), row(-maxTemp-1, maxTemp+1, 0, 0, 0, 0), row(math.MinInt, math.MaxInt, 0, 0, 0, 0))
}

// wrongUses has uses of which exactly one number is wrong.
func wrongUses() []use {
	var l []use
	for _, u := range someUses([]int{-maxTemp, 0, 20, maxTemp}, []int{0, 10, maxAge}, []int{0, 60, maxSince}) {
		for _, n := range outside(-maxTemp, maxTemp) {
			l = append(l, use{n, u.age, u.since})
		}
		for _, n := range outside(0, maxAge) {
			l = append(l, use{u.temp, n, u.since})
		}
		for _, n := range outside(0, maxSince) {
			l = append(l, use{u.temp, u.age, n})
		}
	}
	return l
}

func outside(lo, hi int) []int {
	return []int{lo - 1, hi + 1, lo - 1000, hi + 1000, math.MinInt, math.MaxInt, 1 << 32, -1 << 32}
}

// without returns a table without one of its rows.
func without(rows []api.Row, at int) []api.Row {
	return slices.Concat(rows[:at], rows[at+1:])
}

// divided returns a table in which two rows, that have only these temperatures, stand for one.
func divided(rows []api.Row, at int, first, second api.Span) []api.Row {
	one, other := rows[at], rows[at]
	one.Temp, other.Temp = first, second
	return slices.Concat(rows[:at], []api.Row{one, other}, rows[at+1:])
}

// swapped returns a table in which two neighbours have changed their places.
func swapped(rows []api.Row, at int) []api.Row {
	rows = slices.Clone(rows)
	rows[at], rows[at+1] = rows[at+1], rows[at]
	return rows
}
