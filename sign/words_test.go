package sign

import (
	"math"
	"math/big"
	"math/rand"
	"slices"

	"landfall/api"
	"landfall/digest"
)

// What the tests ask for, and what the chapter says of that, computed without package sign: with integers of any size.

const (
	p = 2147483579
	q = 1073741789
)

func large(n int) *big.Int { return big.NewInt(int64(n)) }

// powerOf returns a to the power of x, modulo P.
func powerOf(a, x int) int { return int(new(big.Int).Exp(large(a), large(x), large(p)).Int64()) }

// modQ returns n modulo Q, from 0 on.
func modQ(n *big.Int) int { return int(new(big.Int).Mod(n, large(q)).Int64()) }

// productQ returns x y modulo Q.
func productQ(x, y int) int { return modQ(new(big.Int).Mul(large(x), large(y))) }

// quotientQ returns the number that times y is x, modulo Q.
func quotientQ(x, y int) int {
	inverse := new(big.Int).ModInverse(large(y), large(q))
	return modQ(inverse.Mul(inverse, large(x)))
}

func isElement(a int) bool { return 1 <= a && a <= p-1 && powerOf(a, q) == 1 }

func isSmall(x int) bool { return 0 <= x && x < q }

// challengeOf returns the challenge of an element, a public key and a message.
func challengeOf(once, public int, message []int) int {
	d := digest.Sum(slices.Concat([]int{once, public}, message)...)
	return modQ(new(big.Int).SetUint64(d))
}

// askedFor returns the challenge that a signature has to have.
func askedFor(public int, s api.Sig, message []int) int {
	once := new(big.Int).Mul(large(powerOf(4, s.S)), large(powerOf(public, (q-s.E)%q)))
	return challengeOf(int(once.Mod(once, large(p)).Int64()), public, message)
}

// signed returns the signature of a message.
func signed(secret, once int, message []int) api.Sig {
	e := challengeOf(powerOf(4, once), powerOf(4, secret), message)
	s := new(big.Int).Mul(large(e), large(secret))
	return api.Sig{E: e, S: modQ(s.Add(s, large(once)))}
}

// rightness returns what Verify has to return.
func rightness(public int, s api.Sig, message []int) (bool, api.Errno) {
	if !isElement(public) || !isSmall(s.E) || !isSmall(s.S) {
		return false, api.ErrArg
	}
	return askedFor(public, s, message) == s.E, api.OK
}

// exponents has the least and greatest exponents, those around powers of 2, and others.
func exponents() []int {
	l := []int{0, 1, 2, 3, 4, 5, 6, 7, 10, 100, q / 2, q/2 + 1, q / 3, q - 3, q - 2, q - 1, 1<<29 + 1<<28, 0x15555555, 0x2aaaaaaa}
	for i := 2; i < 30; i++ {
		l = append(l, 1<<i-1, 1<<i, 1<<i+1)
	}
	random := rand.New(rand.NewSource(11))
	for range 40 {
		l = append(l, random.Intn(q))
	}
	return l
}

// secrets has all exponents but 0.
func secrets() []int { return slices.DeleteFunc(exponents(), func(x int) bool { return x == 0 }) }

// someSecrets has secrets for tests that try many things with each.
func someSecrets() []int { return []int{1, 2, 5, 7, 12345, 1 << 29, 123456789, q / 2, q - 2, q - 1} }

// noExponents has numbers that are no exponents; 0 is no secret either.
func noExponents() []int {
	l := []int{-1, -2, -7, q, q + 1, q + 7, 2 * q, 2*q + 7, -q, 7 - q, p - 1, p, p + 7, 1 << 31, 1 << 32, 1<<32 + 7, -1 << 31, 7 - 1<<32, math.MaxInt, math.MaxInt - 1, math.MinInt, math.MinInt + 1}
	for i := 30; i < 63; i++ {
		l = append(l, 1<<i+5, -1<<i+5)
	}
	return l
}

// elements has the least and greatest elements, generators of the group, and others.
func elements() []int {
	l := []int{1, 3, 4, 9, 16, 25, 64, 81, 1024, p - 2, p - 5, p - 6, p - 7, p - 8, p - 10, p - 11, 252882231, q, q + 1, q + 2, q - 1}
	random := rand.New(rand.NewSource(12))
	for range 40 {
		a := random.Intn(p-1) + 1
		l = append(l, a, powerOf(a, 2))
	}
	return slices.DeleteFunc(l, func(a int) bool { return !isElement(a) })
}

// noElements has numbers that are no elements: beyond P, also by what modulo P would be one, or not in the group.
func noElements() []int {
	l := []int{0, -1, -4, -9, 2, 8, 32, p - 1, p - 4, p - 9, p - 1024, p, p + 1, p + 4, p + 1024, 2 * p, 2*p + 1, 1 - p, 4 - p, 1024 - p, -p, 1<<32 + 4, 1<<31 + 1, 4 - 1<<32, math.MaxInt, math.MaxInt - 1, math.MinInt, math.MinInt + 1, math.MinInt + 4}
	for i := 31; i < 63; i++ {
		l = append(l, 1<<i+4, 1<<i, -1<<i+4)
	}
	return append(l, p*p, p*p+4, p*(p-1)+1)
}

// messages has messages of both signs and all lengths of digits, and of no, one, and many integers.
func messages() [][]int {
	l := [][]int{nil, {0}, {0, 0}, {1}, {-1}, {1, 2}, {2, 1}, {12}, {1, 2, 0}, {0, 1, 2}, {1, 2, 3}, {-5, 1000000, 3}, {math.MaxInt}, {math.MinInt}, {math.MinInt, math.MaxInt, 0, -1}, {1024}, {16384, 1024}, {p, q, 4, -p, -q}}
	random := rand.New(rand.NewSource(13))
	for n := range 12 {
		l = append(l, some(random, n*n))
	}
	return append(l, some(random, api.MaxInts), some(random, api.MaxInts+1))
}

// some returns a list of n integers.
func some(random *rand.Rand, n int) []int {
	l := make([]int, n)
	for i := range l {
		l[i] = int(random.Uint64()) >> random.Intn(64)
	}
	return l
}

// short cuts a message off for printing.
func short(message []int) []int { return message[:min(len(message), 20)] }

// signing has what is signed, and the signature.
type signing struct {
	secret, once int
	message      []int
	sig          api.Sig
}

// extremes has signings with the least and greatest challenges, and the least and greatest S, that there are. They were found by trying all.
func extremes() []signing {
	return []signing{
		{5, 7, []int{1820528201}, api.Sig{E: 0, S: 7}}, {5, 7, []int{2001341327}, api.Sig{E: 0, S: 7}},
		{5, 7, []int{1057756016}, api.Sig{E: 1, S: 12}}, {5, 7, []int{3337177855}, api.Sig{E: 1, S: 12}},
		{5, 7, []int{794474921}, api.Sig{E: q - 1, S: 2}}, {5, 7, []int{968214384}, api.Sig{E: q - 1, S: 2}},
		{5, 908611457, []int{1, 2}, api.Sig{E: 462522782, S: 0}}, {5, 733608850, []int{1, 2}, api.Sig{E: 927020019, S: 0}}, {6, 359974775, []int{1, 2}, api.Sig{E: 118961169, S: 0}},
		{5, 22737758, []int{1, 2}, api.Sig{E: 639697522, S: 1}}, {12345, 492232186, []int{1, 2}, api.Sig{E: 1073701916, S: 1}},
		{5, 272938489, []int{1, 2}, api.Sig{E: 1019154091, S: q - 1}}, {12345, 261581634, []int{1, 2}, api.Sig{E: 985438063, S: q - 1}},
	}
}

// agreeing has messages of which the secret 5 makes the same challenge, with the number 7.
func agreeing() [][2][]int {
	return [][2][]int{{{34732}, {140719}}, {{34707}, {140724}}, {{34703}, {140728}}, {{1820528201}, {2001341327}}, {{1057756016}, {3337177855}}, {{794474921}, {968214384}}}
}

// agreeingOnces has numbers with which the secret 5 makes the same challenge of the message 1, 2.
func agreeingOnces() [][2]int {
	return [][2]int{{16787, 43194}, {24619, 53160}, {47419, 66395}}
}
