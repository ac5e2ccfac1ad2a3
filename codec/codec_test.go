package codec

import (
	"bytes"
	"math"
	"math/rand"
	"slices"
	"testing"

	"landfall/api"
	"landfall/digest"
)

// mustPut returns the bytes of a list that has some.
func mustPut(t *testing.T, l []int) []byte {
	t.Helper()
	b, e := Put(l)
	if e != api.OK {
		t.Fatalf("Put of %d integers: %v", len(l), e)
	}
	return b
}

// mustFrame returns the frame of a list that has one.
func mustFrame(t *testing.T, l []int) []byte {
	t.Helper()
	b, e := Frame(l)
	if e != api.OK {
		t.Fatalf("Frame of %d integers: %v", len(l), e)
	}
	return b
}

// mustFrames returns the lists of whole frames, and how many bytes these have.
func mustFrames(t *testing.T, b []byte) ([][]int, int) {
	t.Helper()
	l, n, e := Frames(b)
	if e != api.OK {
		t.Fatalf("Frames of %d bytes: %v", len(b), e)
	}
	return l, n
}

// same reports whether two rows have the same lists.
func same(a, b [][]int) bool { return slices.EqualFunc(a, b, slices.Equal) }

// short cuts off what would fill the screen.
func short(b []byte) []byte { return b[:min(len(b), 60)] }

// checkGet compares Get with the chapter's words.
func checkGet(t *testing.T, b []byte) {
	t.Helper()
	want, is := getByWords(b)
	l, e := Get(b)
	if is && (e != api.OK || !slices.Equal(l, want)) || !is && (e != api.ErrForm || len(l) > 0) {
		t.Fatalf("Get(%v), %d bytes: %d integers, %v instead of %d, %v", short(b), len(b), len(l), e, len(want), is)
	}
}

// checkFrames compares Frames with the chapter's words.
func checkFrames(t *testing.T, b []byte) {
	t.Helper()
	want, size := framesByWords(b)
	if l, n, e := Frames(b); !same(l, want) || n != size || e != api.OK {
		t.Fatalf("Frames(%v), %d bytes: %d lists, %d, %v instead of %d, %d", short(b), len(b), len(l), n, e, len(want), size)
	}
}

func TestP8_1_PutExamples(t *testing.T) {
	for _, x := range []struct {
		l []int
		b []byte
	}{
		{[]int{0, -1, 64}, []byte{6, 0, 1, 128, 1}}, {nil, []byte{0}}, {[]int{}, []byte{0}}, {[]int{5}, []byte{2, 10}}, {[]int{-1}, []byte{2, 1}}, {[]int{-2, 2}, []byte{4, 3, 4}},
		{[]int{63, -64}, []byte{4, 126, 127}}, {[]int{64, -65}, []byte{4, 128, 1, 129, 1}}, {[]int{8191, -8192}, []byte{4, 254, 127, 255, 127}}, {[]int{8192, -8193}, []byte{4, 128, 128, 1, 129, 128, 1}},
		{[]int{math.MaxInt}, []byte{2, 254, 255, 255, 255, 255, 255, 255, 255, 255, 1}}, {[]int{math.MinInt}, []byte{2, 255, 255, 255, 255, 255, 255, 255, 255, 255, 1}},
		{[]int{1 << 62}, []byte{2, 128, 128, 128, 128, 128, 128, 128, 128, 128, 1}}, {[]int{1<<62 - 1}, []byte{2, 254, 255, 255, 255, 255, 255, 255, 255, 127}},
		{repeated(0, 64), append([]byte{128, 1}, make([]byte, 64)...)}, {repeated(0, 63), append([]byte{126}, make([]byte, 63)...)}, {repeated(0, 4000), append([]byte{192, 62}, make([]byte, 4000)...)},
	} {
		if b, e := Put(x.l); !bytes.Equal(b, x.b) || e != api.OK {
			t.Errorf("Put(%v): %v, %v instead of %v", x.l, b, e, x.b)
		}
	}
}

func TestP8_1_PutByWords(t *testing.T) {
	for _, l := range allLists() {
		if b, e := Put(l); !bytes.Equal(b, putByWords(l)) || e != api.OK {
			t.Fatalf("Put of %d integers: %v, %v instead of %v", len(l), short(b), e, short(putByWords(l)))
		}
	}
	for n := -20000; n <= 20000; n++ {
		if b, e := Put([]int{n}); !bytes.Equal(b, putByWords([]int{n})) || e != api.OK {
			t.Fatalf("Put(%d): %v, %v", n, b, e)
		}
	}
}

func TestP8_1_TooLong(t *testing.T) {
	for _, l := range tooLong() {
		if b, e := Put(l); len(b) > 0 || e != api.ErrLimit {
			t.Errorf("Put of %d integers: %d bytes, %v", len(l), len(b), e)
		}
		if b, e := Frame(l); len(b) > 0 || e != api.ErrLimit {
			t.Errorf("Frame of %d integers: %d bytes, %v", len(l), len(b), e)
		}
	}
}

func TestP8_1_GetExamples(t *testing.T) {
	for _, x := range []struct {
		b []byte
		l []int
	}{
		{[]byte{6, 0, 1, 128, 1}, []int{0, -1, 64}}, {[]byte{0}, nil}, {[]byte{2, 10}, []int{5}}, {[]byte{2, 127}, []int{-64}}, {[]byte{2, 129, 1}, []int{-65}}, {[]byte{2, 128, 2}, []int{128}},
		{[]byte{2, 254, 255, 255, 255, 255, 255, 255, 255, 255, 1}, []int{math.MaxInt}}, {[]byte{2, 255, 255, 255, 255, 255, 255, 255, 255, 255, 1}, []int{math.MinInt}},
		{append([]byte{192, 62}, make([]byte, 4000)...), repeated(0, 4000)}, {append([]byte{128, 1}, slices.Repeat([]byte{1}, 64)...), repeated(-1, 64)},
	} {
		if l, e := Get(x.b); !slices.Equal(l, x.l) || e != api.OK {
			t.Errorf("Get(%v): %v, %v instead of %v", short(x.b), l, e, x.l)
		}
	}
}

func TestP8_1_GetOfNoList(t *testing.T) {
	for i, b := range noLists() {
		if l, e := Get(b); len(l) > 0 || e != api.ErrForm {
			t.Errorf("%d, Get(%v): %v, %v", i, short(b), l, e)
		}
		checkGet(t, b)
	}
}

// The bytes of lists with at most three bytes are all known, so whatever else is read is none.
func TestP8_1_GetOfAllShortBytes(t *testing.T) {
	lists := map[string][]int{"\x00": nil}
	for n := -8192; n < 8192; n++ {
		lists[string(putByWords([]int{n}))] = []int{n}
	}
	for n := -64; n < 64; n++ {
		for m := -64; m < 64; m++ {
			lists[string(putByWords([]int{n, m}))] = []int{n, m}
		}
	}
	check := func(b ...byte) {
		want, is := lists[string(b)]
		if l, e := Get(b); is && (e != api.OK || !slices.Equal(l, want)) || !is && (e != api.ErrForm || len(l) > 0) {
			t.Fatalf("Get(%v): %v, %v instead of %v, %v", b, l, e, want, is)
		}
	}
	check()
	for a := range 256 {
		check(byte(a))
		for b := range 256 {
			check(byte(a), byte(b))
			for _, c := range []byte{0, 1, 2, 63, 64, 126, 127, 128, 129, 130, 254, 255} {
				check(byte(a), byte(b), c)
			}
		}
	}
	for b := range 256 {
		for c := range 256 {
			for _, a := range []byte{0, 1, 2, 3, 4, 6, 128, 130, 132} {
				check(a, byte(b), byte(c))
			}
		}
	}
}

func TestP8_1_GetByWords(t *testing.T) {
	kinds := []byte{0, 1, 2, 3, 4, 6, 127, 128, 129, 130, 255}
	random := rand.New(rand.NewSource(4))
	for range 100000 {
		b := make([]byte, random.Intn(15))
		for i := range b {
			b[i] = kinds[random.Intn(len(kinds))]
		}
		checkGet(t, b)
	}
	// The last byte of an integer that has as many bytes as an integer can have, and one more or less.
	for _, low := range []byte{128, 129, 254, 255} {
		for n := 7; n < 12; n++ {
			for last := range 256 {
				integer := append(slices.Repeat([]byte{low}, n), byte(last))
				checkGet(t, append([]byte{2}, integer...))
				checkGet(t, append([]byte{4}, append(integer, 7)...))
				checkGet(t, append([]byte{4, 7}, integer...))
				checkGet(t, integer)
			}
		}
	}
}

func TestP8_1_GetOfChangedBytes(t *testing.T) {
	for _, l := range smallLists()[:40] {
		b := putByWords(l)
		for i := range b {
			for c := range 256 {
				other := slices.Clone(b)
				other[i] = byte(c)
				checkGet(t, other)
			}
			checkGet(t, slices.Delete(slices.Clone(b), i, i+1))
			checkGet(t, slices.Insert(slices.Clone(b), i, 128))
			checkGet(t, slices.Insert(slices.Clone(b), i, 0))
		}
		checkGet(t, append(b, 0))
	}
}

func TestP8_1_FrameExamples(t *testing.T) {
	for _, x := range []struct{ l, head, seal []byte }{
		{[]byte{5}, []byte{0, 0, 2, 2, 10}, []byte{246, 22, 11, 217, 47, 1, 162, 197}},
		{nil, []byte{0, 0, 1, 0}, []byte{77, 34, 16, 127, 157, 203, 48, 204}},
		{[]byte{0, 3, 64}, []byte{0, 0, 5, 6, 0, 6, 128, 1}, nil},
		{make([]byte, 253), append([]byte{0, 0, 255, 250, 3}, make([]byte, 253)...), nil},
		{make([]byte, 254), append([]byte{0, 1, 0, 252, 3}, make([]byte, 254)...), []byte{153, 152, 18, 175, 54, 112, 146, 247}},
		{make([]byte, 4000), append([]byte{0, 15, 162, 192, 62}, make([]byte, 4000)...), nil},
	} {
		var l []int
		for _, n := range x.l {
			l = append(l, int(n))
		}
		want := sealedWith(x.head)
		if x.seal != nil {
			want = append(x.head, x.seal...)
		}
		if b, e := Frame(l); !bytes.Equal(b, want) || e != api.OK {
			t.Errorf("Frame of %d integers: %v, %v instead of %v", len(l), short(b), e, short(want))
		}
	}
	b := mustFrame(t, repeated(math.MinInt, 4000))
	if len(b) != 3+40002+8 || !bytes.Equal(b[:5], []byte{0, 156, 66, 192, 62}) {
		t.Errorf("Frame of the longest list: %v, %d bytes", b[:5], len(b))
	}
}

// sealedWith returns bytes, and their digest by package digest after them.
func sealedWith(b []byte) []byte {
	d := digest.Text(string(b))
	return append(b, byte(d>>56), byte(d>>48), byte(d>>40), byte(d>>32), byte(d>>24), byte(d>>16), byte(d>>8), byte(d))
}

func TestP8_1_FrameByWords(t *testing.T) {
	for _, l := range allLists() {
		if b, e := Frame(l); !bytes.Equal(b, frameByWords(l)) || e != api.OK {
			t.Fatalf("Frame of %d integers: %v, %v instead of %v", len(l), short(b), e, short(frameByWords(l)))
		}
	}
}

func TestP8_1_FramesExamples(t *testing.T) {
	five, none := frameByWords([]int{5}), frameByWords(nil)
	for i, x := range []struct {
		b []byte
		l [][]int
		n int
	}{
		{nil, nil, 0}, {five, [][]int{{5}}, 13}, {none, [][]int{nil}, 12}, {slices.Concat(five, none), [][]int{{5}, nil}, 25}, {slices.Concat(none, five, five), [][]int{nil, {5}, {5}}, 38},
		{slices.Concat(five, five[:12]), [][]int{{5}}, 13}, {slices.Concat(five[1:], five), nil, 0}, {slices.Concat(five, []byte{9}, five), [][]int{{5}}, 13}, {slices.Concat(five, turned(slices.Clone(five)), none), [][]int{{5}}, 13},
		{slices.Concat(none, sealed(nil), none), [][]int{nil}, 12}, {slices.Concat(none, sealed([]byte{2, 128, 0}), none), [][]int{nil}, 12}, {slices.Concat(none, sealed([]byte{0, 0}), none), [][]int{nil}, 12},
	} {
		if l, n, e := Frames(x.b); !same(l, x.l) || n != x.n || e != api.OK {
			t.Errorf("%d: %v, %d, %v instead of %v, %d", i, l, n, e, x.l, x.n)
		}
	}
}

func TestP8_1_FramesOfAllLists(t *testing.T) {
	for _, l := range allLists() {
		b := frameByWords(l)
		for _, x := range []struct {
			b []byte
			l [][]int
			n int
		}{{b, [][]int{l}, len(b)}, {slices.Concat(b, b), [][]int{l, l}, 2 * len(b)}, {append(b, 0), [][]int{l}, len(b)}, {b[:len(b)-1], nil, 0}, {append([]byte{0}, b...), nil, 0}} {
			if got, n, e := Frames(x.b); !same(got, x.l) || n != x.n || e != api.OK {
				t.Fatalf("%d frames of %d integers: %d lists, %d, %v instead of %d", len(x.l), len(l), len(got), n, e, x.n)
			}
		}
	}
}

func TestP8_1_FramesByWords(t *testing.T) {
	for _, b := range afters() {
		checkFrames(t, b)
	}
	for _, b := range noFrames() {
		if l, n := mustFrames(t, b); len(l) > 0 || n != 0 {
			t.Fatalf("Frames(%v): %v, %d", short(b), l, n)
		}
	}
}

// What is written in the first three bytes of a frame, whatever it is.
func TestP8_1_FramesWithOtherLengths(t *testing.T) {
	for _, row := range [][][]int{{{5}}, {nil}, {{1, 2, 3}, {4}}, {{300, -300}, {1}}} {
		b := framed(row)
		for i := range 3 {
			for c := range 256 {
				other := slices.Clone(b)
				other[i] = byte(c)
				checkFrames(t, other)
			}
		}
		for n := range 40 {
			// With a length and a digest that belong together, the bytes of the list are cut off, or have something after them.
			body := slices.Concat(putByWords(row[0]), make([]byte, 40))[:n]
			checkFrames(t, sealed(body))
			checkFrames(t, append(sealed(body), b...))
		}
	}
}

func TestP8_1_FramesLimits(t *testing.T) {
	most := slices.Repeat(frameByWords(nil), 16666)
	for _, x := range []struct {
		after []byte
		n, l  int
		e     api.Errno
	}{
		{nil, 199992, 16666, api.OK}, {make([]byte, 7), 199992, 16666, api.OK}, {make([]byte, 8), 199992, 16666, api.OK}, {make([]byte, 9), 0, 0, api.ErrLimit}, {make([]byte, 10000), 0, 0, api.ErrLimit}, {frameByWords(nil), 0, 0, api.ErrLimit},
	} {
		l, n, e := Frames(slices.Concat(most, x.after))
		if len(l) != x.l || n != x.n || e != x.e {
			t.Errorf("%d bytes: %d lists, %d, %v", len(most)+len(x.after), len(l), n, e)
		}
	}
	for _, size := range []int{199999, 200000} {
		if l, n, e := Frames(make([]byte, size)); len(l) > 0 || n != 0 || e != api.OK {
			t.Errorf("%d bytes: %v, %d, %v", size, l, n, e)
		}
	}
	for _, size := range []int{200001, 300000, 1 << 25} {
		if l, n, e := Frames(make([]byte, size)); len(l) > 0 || n != 0 || e != api.ErrLimit {
			t.Errorf("%d bytes: %v, %d, %v", size, l, n, e)
		}
	}
	// Frames that end exactly where bytes can end.
	for _, x := range []struct {
		b []byte
		l int
	}{
		{append(slices.Repeat(frameByWords(nil), 16665), frameByWords(repeated(0, 8))...), 16666},
		{append(slices.Repeat(frameByWords(repeated(math.MinInt, 4000)), 4), slices.Repeat(frameByWords(nil), 3329)...), 3333},
	} {
		if l, n, e := Frames(x.b); len(x.b) != 200000 || len(l) != x.l || n != 200000 || e != api.OK {
			t.Errorf("%d bytes: %d lists, %d, %v", len(x.b), len(l), n, e)
		}
		checkFrames(t, x.b[:199999])
	}
}

func TestP8_1_ArgumentsStay(t *testing.T) {
	for _, row := range rows() {
		for _, l := range row {
			given := append(slices.Clone(l), 1, 2, 3, 4, 5, 6, 7, 8)
			before := slices.Clone(given)
			b, f := mustPut(t, given[:len(l)]), mustFrame(t, given[:len(l)])
			fill(b)
			fill(f)
			if !slices.Equal(given, before) {
				t.Fatalf("%v: %v", before, given)
			}
		}
		given := append(framed(row), 1, 2, 3, 4, 5, 6, 7, 8, 9, 10, 11, 12)
		before := slices.Clone(given)
		size := len(given) - 12
		lists, _ := mustFrames(t, given[:size])
		if !bytes.Equal(given, before) {
			t.Fatalf("Frames changes %v to %v", before, given)
		}
		clear(given)
		if !same(lists, row) {
			t.Fatalf("Frames shares memory with its argument: %v instead of %v", lists, row)
		}
	}
}

// fill writes into all memory of bytes, which nothing else may see.
func fill(b []byte) {
	for i := range b[:cap(b)] {
		b[:cap(b)][i] = 77
	}
}

func TestP8_1_ListsShareNothing(t *testing.T) {
	for _, row := range rows() {
		lists, _ := mustFrames(t, framed(row))
		for i, l := range lists {
			clear(l[:cap(l)])
			for k := i + 1; k < len(lists); k++ {
				if !slices.Equal(lists[k], row[k]) {
					t.Fatalf("list %d of %v shares memory with list %d", i, row, k)
				}
			}
		}
	}
	b := []byte{6, 0, 1, 128, 1}
	l, _ := Get(b)
	clear(b)
	if !slices.Equal(l, []int{0, -1, 64}) {
		t.Errorf("Get shares memory with its argument: %v", l)
	}
}

func TestP8_1_CapacityIsNothing(t *testing.T) {
	// What stands behind the end of a slice, in its capacity, is not read.
	for _, row := range rows() {
		b := framed(row)
		for size := range len(b) + 1 {
			checkFrames(t, b[:size])
			l, n := mustFrames(t, b[:size])
			alone, m := mustFrames(t, slices.Clip(slices.Clone(b[:size])))
			if !same(l, alone) || n != m {
				t.Fatalf("%v, %d, but alone %v, %d", l, n, alone, m)
			}
		}
	}
	b := []byte{6, 0, 1, 128, 1}
	for size := range b {
		if l, e := Get(b[:size]); len(l) > 0 || e != api.ErrForm {
			t.Errorf("Get(%v): %v, %v", b[:size], l, e)
		}
	}
}

func TestP8_2_ThereAndBack(t *testing.T) {
	for _, l := range allLists() {
		if got, e := Get(mustPut(t, l)); !slices.Equal(got, l) || e != api.OK {
			t.Fatalf("%v is read as %v, %v", l, got, e)
		}
	}
	for n := -70000; n <= 70000; n++ {
		if got, e := Get(mustPut(t, []int{n, n * n})); !slices.Equal(got, []int{n, n * n}) || e != api.OK {
			t.Fatalf("%d is read as %v, %v", n, got, e)
		}
	}
	random := rand.New(rand.NewSource(5))
	for range 20000 {
		l := randomList(random, random.Intn(12))
		if got, e := Get(mustPut(t, l)); !slices.Equal(got, l) || e != api.OK {
			t.Fatalf("%v is read as %v, %v", l, got, e)
		}
	}
}

func TestP8_2_BackAndThere(t *testing.T) {
	random := rand.New(rand.NewSource(6))
	read := 0
	for range 300000 {
		b := make([]byte, 1+random.Intn(10))
		random.Read(b)
		// A number of integers that can fit, so that many of them are lists.
		b[0] = byte(2 * random.Intn(len(b)))
		l, e := Get(b)
		if e != api.OK {
			continue
		}
		read++
		if again := mustPut(t, l); !bytes.Equal(again, b) {
			t.Fatalf("%v is read as %v, which is written as %v", b, l, again)
		}
	}
	if read < 10000 {
		t.Errorf("only %d were lists", read)
	}
}

func TestP8_2_FramesThereAndBack(t *testing.T) {
	for _, row := range rows() {
		var b []byte
		for _, l := range row {
			b = append(b, mustFrame(t, l)...)
		}
		if got, n := mustFrames(t, b); !same(got, row) || n != len(b) {
			t.Fatalf("%v is read as %v, %d of %d bytes", row, got, n, len(b))
		}
	}
}

func TestP8_3_TornFrames(t *testing.T) {
	for _, row := range rows() {
		var b []byte
		var ends []int
		for _, l := range row {
			b = append(b, mustFrame(t, l)...)
			ends = append(ends, len(b))
		}
		for size := range len(b) + 1 {
			whole, end := 0, 0
			for whole < len(ends) && ends[whole] <= size {
				end = ends[whole]
				whole++
			}
			if got, n := mustFrames(t, b[:size]); !same(got, row[:whole]) || n != end {
				t.Fatalf("%v, cut at %d of %d: %v, %d instead of %d", row, size, len(b), got, n, end)
			}
		}
	}
}

func TestP8_3_TornLongFrames(t *testing.T) {
	for _, l := range [][]int{repeated(0, 254), repeated(64, 4000), repeated(math.MinInt, 4000)} {
		f := mustFrame(t, l)
		b := slices.Concat(f, f)
		for _, size := range []int{0, 1, 2, 3, 4, 5, 11, 12, 13, 255, 256, 257, 258, len(f) - 9, len(f) - 8, len(f) - 1, len(f), len(f) + 1, len(f) + 3, len(f) + 260, len(b) - 9, len(b) - 8, len(b) - 1, len(b)} {
			whole := size / len(f)
			if got, n := mustFrames(t, b[:size]); len(got) != whole || n != whole*len(f) {
				t.Fatalf("frames of %d integers, cut at %d of %d: %d lists, %d", len(l), size, len(b), len(got), n)
			}
		}
	}
}

func TestP8_4_AfterFrames(t *testing.T) {
	for _, row := range rows() {
		b := framed(row)
		for _, after := range afters() {
			alone, size := mustFrames(t, after)
			if got, n := mustFrames(t, slices.Concat(b, after)); !same(got, slices.Concat(row, alone)) || n != len(b)+size {
				t.Fatalf("%v before %v: %v, %d", row, short(after), got, n)
			}
		}
	}
}

func TestP8_4_AfterFramesRandom(t *testing.T) {
	random := rand.New(rand.NewSource(7))
	for range 2000 {
		row := rows()[random.Intn(8)]
		b := framed(row)
		after := make([]byte, random.Intn(40))
		random.Read(after)
		// Few bytes before the list, so that there can be enough of them.
		clear(after[:min(len(after), random.Intn(4))])
		alone, size := mustFrames(t, after)
		if got, n := mustFrames(t, slices.Concat(b, after)); !same(got, slices.Concat(row, alone)) || n != len(b)+size {
			t.Fatalf("%v before %v: %v, %d", row, after, got, n)
		}
	}
}

func TestP8_5_ChangedFrames(t *testing.T) {
	for _, row := range rows() {
		if len(row) == 0 {
			continue
		}
		before := row[:len(row)-1]
		begin := len(framed(before))
		b := framed(row)
		for i := begin + 3; i < len(b); i++ {
			for change := 1; change < 256; change++ {
				if len(b)-begin > 100 && change&(change-1) != 0 {
					// Long frames are changed in one bit at a time.
					continue
				}
				b[i] ^= byte(change)
				if got, n := mustFrames(t, b); !same(got, before) || n != begin {
					t.Fatalf("%v, byte %d changed by %d: %v, %d", row, i, change, got, n)
				}
				b[i] ^= byte(change)
			}
		}
	}
}

func TestP8_5_ChangedLongFrame(t *testing.T) {
	before := frameByWords([]int{1, 2, 3})
	b := append(slices.Clone(before), frameByWords(repeated(math.MinInt, 4000))...)
	for i := len(before) + 3; i < len(b); i += 97 {
		b[i]++
		if got, n := mustFrames(t, b); len(got) != 1 || n != len(before) {
			t.Fatalf("byte %d changed: %d lists, %d", i, len(got), n)
		}
		b[i]--
	}
	for i := len(b) - 8; i < len(b); i++ {
		b[i] += 128
		if got, n := mustFrames(t, b); len(got) != 1 || n != len(before) {
			t.Fatalf("byte %d changed: %d lists, %d", i, len(got), n)
		}
		b[i] += 128
	}
}

func TestP8_6_Prefixes(t *testing.T) {
	for _, l := range allLists() {
		b := mustPut(t, l)
		for size := range b {
			if len(b) > 2000 && size%501 > 1 && size < len(b)-12 {
				continue
			}
			if got, e := Get(b[:size]); len(got) > 0 || e != api.ErrForm {
				t.Fatalf("%d of %d bytes of a list are those of %v, %v", size, len(b), got, e)
			}
		}
	}
}

func TestP8_6_PrefixesOfEachOther(t *testing.T) {
	var all [][]byte
	for _, l := range smallLists() {
		all = append(all, mustPut(t, l))
	}
	for n := -300; n < 300; n++ {
		all = append(all, mustPut(t, []int{n, 0}), mustPut(t, []int{0, n}), mustPut(t, []int{n}))
	}
	slices.SortFunc(all, bytes.Compare)
	all = slices.CompactFunc(all, bytes.Equal)
	// In order, the bytes that begin with others come right after these.
	for i := 1; i < len(all); i++ {
		if bytes.HasPrefix(all[i], all[i-1]) {
			t.Fatalf("%v begins with %v", all[i], all[i-1])
		}
	}
}

func TestP1_AllArgumentsEnd(t *testing.T) {
	for _, b := range [][]byte{make([]byte, 1<<22), slices.Repeat([]byte{128}, 1<<22), slices.Repeat([]byte{255}, 1<<22), slices.Repeat([]byte{127}, 1<<22), append([]byte{2}, slices.Repeat([]byte{128}, 1<<22)...), append(append([]byte{2}, slices.Repeat([]byte{128}, 1<<22)...), 0), append([]byte{192, 62}, slices.Repeat([]byte{2}, 1<<22)...)} {
		if l, e := Get(b); len(l) > 0 || e != api.ErrForm {
			t.Errorf("Get(%v): %d integers, %v", short(b), len(l), e)
		}
		if l, n, e := Frames(b); len(l) > 0 || n != 0 || e != api.ErrLimit {
			t.Errorf("Frames(%v): %d lists, %d, %v", short(b), len(l), n, e)
		}
	}
	random := rand.New(rand.NewSource(8))
	for range 100000 {
		b := make([]byte, random.Intn(30))
		random.Read(b)
		clear(b[:random.Intn(len(b)+1)])
		if l, e := Get(b); e != api.OK && (len(l) > 0 || e != api.ErrForm) {
			t.Fatalf("Get(%v): %v, %v", b, l, e)
		}
		if l, n, e := Frames(b); e != api.OK || n < 0 || n > len(b) || len(l)*12 > n {
			t.Fatalf("Frames(%v): %v, %d, %v", b, l, n, e)
		}
	}
}

// No state is kept: what was read or refused before changes nothing.
func TestP1_ArgumentsAlone(t *testing.T) {
	results := func() ([][]byte, [][]int) {
		var written [][]byte
		var read [][]int
		for _, l := range append(smallLists(), tooLong()...) {
			b, _ := Put(l)
			f, _ := Frame(l)
			written = append(written, b, f)
		}
		for _, b := range append(noLists(), afters()...) {
			l, _ := Get(b)
			all, n, _ := Frames(b)
			read = append(append(append(read, l), all...), []int{n})
		}
		return written, read
	}
	written, read := results()
	for range 2 {
		w, r := results()
		if !slices.EqualFunc(w, written, bytes.Equal) || !same(r, read) {
			t.Fatal("the same arguments lead to other results")
		}
	}
}

// P2, T9 for this package: frames that are written again and again after they were torn are read in their order, none twice.
func TestP2_T9_TornAndWrittenAgain(t *testing.T) {
	random := rand.New(rand.NewSource(9))
	for range 200 {
		var b []byte
		var want [][]int
		for n := range 1 + random.Intn(20) {
			l := append([]int{n}, randomList(random, random.Intn(5))...)
			f := mustFrame(t, l)
			// What is torn is dropped from where the last whole frame ends, and the frame is written again.
			torn, size := mustFrames(t, slices.Concat(b, f[:random.Intn(len(f))]))
			if !same(torn, want) || size != len(b) {
				t.Fatalf("%v, %d instead of %v, %d", torn, size, want, len(b))
			}
			b, want = append(b, f...), append(want, l)
		}
		if got, n := mustFrames(t, b); !same(got, want) || n != len(b) {
			t.Fatalf("%v, %d instead of %v, %d", got, n, want, len(b))
		}
	}
}
