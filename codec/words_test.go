package codec

import (
	"hash/fnv"
	"math"
	"math/big"
	"math/rand"
	"slices"

	"landfall/api"
)

// number computes the number of an integer as the chapter says, with integers of any size.
func number(n int) *big.Int {
	x := new(big.Int).Mul(big.NewInt(2), big.NewInt(int64(n)))
	if n < 0 {
		x.Neg(x).Sub(x, big.NewInt(1))
	}
	return x
}

// bytesOf writes a number as bytes as the chapter says: in seven bits each, the lowest ones first.
func bytesOf(number *big.Int) []byte {
	rest, size := new(big.Int).Set(number), big.NewInt(128)
	var l []byte
	for len(l) == 0 || rest.Sign() > 0 {
		part := new(big.Int)
		rest.DivMod(rest, size, part)
		l = append(l, byte(part.Int64()))
	}
	for i := range len(l) - 1 {
		l[i] += 128
	}
	return l
}

// putByWords returns the bytes of a list as the chapter says, of a list of any length.
func putByWords(l []int) []byte {
	b := bytesOf(number(len(l)))
	for _, n := range l {
		b = append(b, bytesOf(number(n))...)
	}
	return b
}

// loose reads bytes as numbers, whatever they are, without those at the end that have none.
func loose(b []byte) []*big.Int {
	var l []*big.Int
	x, place := new(big.Int), uint(0)
	for _, c := range b {
		x.Add(x, new(big.Int).Lsh(big.NewInt(int64(c%128)), place))
		place += 7
		if c < 128 {
			l = append(l, x)
			x, place = new(big.Int), 0
		}
	}
	return l
}

// getByWords returns the list that has these bytes: what they are read as, whatever they are, if that is a list with exactly these bytes.
func getByWords(b []byte) ([]int, bool) {
	numbers := loose(b)
	if len(numbers) == 0 || len(numbers)-1 > 4000 {
		return nil, false
	}
	var l []int
	for _, x := range numbers[1:] {
		half, odd := new(big.Int).DivMod(x, big.NewInt(2), new(big.Int))
		if odd.Sign() > 0 {
			half.Neg(half).Sub(half, big.NewInt(1))
		}
		if !half.IsInt64() {
			return nil, false
		}
		l = append(l, int(half.Int64()))
	}
	return l, slices.Equal(putByWords(l), b)
}

// sealed returns bytes as those of a frame, whether they are those of a list or not.
func sealed(body []byte) []byte {
	n := len(body)
	f := append([]byte{byte(n / 65536 % 256), byte(n / 256 % 256), byte(n % 256)}, body...)
	h := fnv.New64a()
	h.Write(f)
	return h.Sum(f)
}

// frameByWords returns the frame of a list as the chapter says.
func frameByWords(l []int) []byte { return sealed(putByWords(l)) }

// firstByWords returns the list whose frame stands at the beginning of bytes.
func firstByWords(b []byte) ([]int, bool) {
	if len(b) < 3 {
		return nil, false
	}
	end := 3 + int(b[0])*65536 + int(b[1])*256 + int(b[2])
	if end > len(b) {
		return nil, false
	}
	l, is := getByWords(b[3:end])
	if !is {
		return nil, false
	}
	f := frameByWords(l)
	return l, len(b) >= len(f) && slices.Equal(b[:len(f)], f)
}

// framesByWords returns the lists of all whole frames at the beginning of bytes, and how many bytes they have.
func framesByWords(b []byte) ([][]int, int) {
	var all [][]int
	n := 0
	for {
		l, is := firstByWords(b[n:])
		if !is {
			return all, n
		}
		all = append(all, l)
		n += len(frameByWords(l))
	}
}

// edges has integers at which the number of bytes, or the sign, changes, and the least and the greatest ones.
func edges() []int {
	l := []int{0, math.MaxInt, math.MinInt, math.MaxInt - 1, math.MinInt + 1, api.MaxCoord, -api.MaxCoord, api.MaxSpan, -api.MaxSpan}
	for k := range 63 {
		l = append(l, 1<<k, 1<<k-1, 1<<k+1, -1<<k, -1<<k-1, -1<<k+1)
	}
	return l
}

// randomList returns a list of integers of both signs and of all sizes.
func randomList(random *rand.Rand, n int) []int {
	var l []int
	for range n {
		l = append(l, int(random.Uint64())>>random.Intn(64))
	}
	return l
}

// repeated returns a list of one integer.
func repeated(n, times int) []int { return slices.Repeat([]int{n}, times) }

// smallLists has lists with few integers.
func smallLists() [][]int {
	l := [][]int{nil, {0}, {5}, {0, -1, 64}, {63, -64}, {0, 0}, {0, 0, 0}, {3, 0, 0, 0}, {128}, {-128}, {1, 2, 3, 4, 5, 6, 7, 8}, repeated(-1, 63), repeated(7, 64), repeated(1, 65)}
	for _, n := range edges() {
		l = append(l, []int{n}, []int{n, 0, n})
	}
	random := rand.New(rand.NewSource(1))
	for n := range 60 {
		l = append(l, randomList(random, n))
	}
	return l
}

// largeLists has lists with as many integers, and as many bytes, as there can be, and nearly as many; and those where the number of bytes of the number of integers, or of bytes in a frame, changes.
func largeLists() [][]int {
	random := rand.New(rand.NewSource(2))
	var l [][]int
	for _, n := range []int{63, 64, 127, 128, 253, 254, 255, 256, 257, 3999, 4000} {
		l = append(l, repeated(0, n), repeated(-1, n), randomList(random, n))
	}
	return append(l, repeated(math.MinInt, 4000), repeated(math.MaxInt, 3999), repeated(64, 4000))
}

// allLists has lists of all sorts.
func allLists() [][]int { return append(smallLists(), largeLists()...) }

// tooLong has lists with too many integers.
func tooLong() [][]int {
	return [][]int{repeated(0, 4001), repeated(-1, 4002), repeated(math.MaxInt, 4001), make([]int, 8000), make([]int, 100000)}
}

// rows has rows of lists, for frames that stand one after the other.
func rows() [][][]int {
	l := [][][]int{
		nil, {nil}, {{5}}, {{5}, nil}, {nil, {5}}, {nil, nil, nil}, {{0, -1, 64}, {63, -64}}, {{math.MinInt}, nil, {math.MaxInt, 1}, {0}},
		{repeated(1, 130), {1}}, {{1}, repeated(-300, 140)},
	}
	random := rand.New(rand.NewSource(3))
	for n := range 12 {
		var row [][]int
		for range n {
			row = append(row, randomList(random, random.Intn(6)))
		}
		l = append(l, row)
	}
	return l
}

// framed returns the frames of lists, one after the other.
func framed(row [][]int) []byte {
	var b []byte
	for _, l := range row {
		b = append(b, frameByWords(l)...)
	}
	return b
}

// noLists has bytes that are those of no list, each for another reason.
func noLists() [][]byte {
	high := slices.Repeat([]byte{255}, 9)
	l := [][]byte{
		// Nothing; an integer that is not finished; a list that is not finished; something after the list.
		nil, {}, {128}, {255}, {2, 128}, {2, 255, 255}, {2}, {4, 0}, {8, 1, 2, 3}, {128, 1}, {0, 0}, {2, 0, 0}, {4, 0, 1, 2}, {6, 0, 1, 128, 1, 0}, {6, 0, 1, 128, 1, 128},
		// More bytes than needed.
		{128, 0}, {2, 128, 0}, {130, 0, 5}, {2, 129, 0}, {2, 255, 0}, {2, 128, 128, 0}, {4, 1, 255, 128, 0}, {128, 128, 0},
		// A negative number of integers, and too many.
		{1}, {1, 0}, {3}, {3, 0}, {127}, {255, 1}, {194, 62}, {193, 62}, append([]byte{194, 62}, make([]byte, 4001)...), append([]byte{193, 62}, make([]byte, 4001)...),
		append([]byte{196, 62}, make([]byte, 4002)...), append([]byte{192, 126}, make([]byte, 8096)...),
		append(slices.Clone(high), 1), append([]byte{254}, append(slices.Clone(high[1:]), 1)...), append([]byte{254}, append(slices.Clone(high[1:]), 1, 5)...),
		// Integers beyond 64 bits.
		append([]byte{2}, append(slices.Clone(high), 2)...), append([]byte{2}, append(slices.Clone(high), 3)...), append([]byte{2}, append(slices.Clone(high), 127)...),
		append([]byte{2}, append(slices.Clone(high), 129, 0)...), append([]byte{2}, append(slices.Clone(high), 129, 1)...), append([]byte{2}, append(slices.Clone(high), 128, 1)...),
		append([]byte{2}, append(slices.Repeat([]byte{128}, 9), 2)...), append([]byte{2}, append(slices.Repeat([]byte{128}, 10), 1)...), append([]byte{2}, append(slices.Repeat([]byte{128}, 18), 1)...),
		append(slices.Repeat([]byte{128}, 9), 2), append([]byte{130}, append(slices.Repeat([]byte{128}, 9), 1, 5)...), append([]byte{130}, append(slices.Repeat([]byte{128}, 8), 2, 5)...),
	}
	for n := range 40 {
		l = append(l, append([]byte{2}, slices.Repeat([]byte{128}, n+1)...), append(append([]byte{2}, slices.Repeat([]byte{128}, n+1)...), 0), append(append([]byte{2}, slices.Repeat([]byte{128}, n+10)...), 1))
	}
	return l
}

// noFrames has bytes with which no whole frame of a list begins.
func noFrames() [][]byte {
	l := [][]byte{
		nil, {0}, {0, 0}, {0, 0, 0}, {0, 0, 1}, {0, 0, 1, 0}, {255, 255, 255}, {255}, {0, 0, 255, 0}, {128, 0, 0, 0}, make([]byte, 11), make([]byte, 12), make([]byte, 13), make([]byte, 5000), slices.Repeat([]byte{255}, 5000),
		// A length of a byte more, a byte less, and one with another order of bytes.
		append([]byte{0, 0, 2, 0}, frameByWords(nil)[4:]...), append([]byte{0, 0, 0, 0}, frameByWords(nil)[4:]...), append([]byte{1, 0, 0, 0}, frameByWords(nil)[4:]...),
		// A digest of the bytes of the list alone, and one with the lowest byte first.
		append([]byte{0, 0, 1}, reseal([]byte{0})...), turned(frameByWords([]int{5})), turned(frameByWords(nil)),
	}
	for _, b := range noLists() {
		l = append(l, sealed(b))
	}
	// A length that is right only if its highest byte does not count, counts as the lowest one, or counts half.
	for high := 1; high < 256; high++ {
		few := reseal([]byte{byte(high), 0, 1, 0})
		l = append(l, few, append(few, make([]byte, 1000)...), reseal(append([]byte{byte(high), 0, 1}, putByWords(repeated(5, min(high, 63)))...)))
	}
	half := append(repeated(math.MinInt, 3276), 1<<44)
	l = append(l, reseal(append([]byte{1, 0, 1}, putByWords(half)...)), append(reseal([]byte{1, 0, 1, 0}), make([]byte, 150000)...))
	// A length that fits, of what is sealed, but of no list, since none has as many bytes.
	return append(l, sealed(make([]byte, 65537)), sealed(putByWords(repeated(0, 65534))), sealed(putByWords(repeated(math.MaxInt, 15000))))
}

// reseal returns bytes, and their own digest after them.
func reseal(b []byte) []byte {
	h := fnv.New64a()
	h.Write(b)
	return h.Sum(slices.Clone(b))
}

// turned returns a frame with the bytes of its digest in the opposite order.
func turned(f []byte) []byte {
	slices.Reverse(f[len(f)-8:])
	return f
}

// afters has what can stand after whole frames: no frame, a part of one, or whole ones.
func afters() [][]byte {
	l := noFrames()
	for _, row := range rows() {
		b := framed(row)
		l = append(l, b, b[:len(b)/2], append(slices.Clone(b), 0), append([]byte{0}, b...))
	}
	return l
}
