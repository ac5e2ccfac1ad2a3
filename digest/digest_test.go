package digest

import (
	"fmt"
	"hash/fnv"
	"math"
	"math/big"
	"math/rand"
	"slices"
	"strings"
	"testing"

	"landfall/api"
)

// none is the digest of no bytes.
const none uint64 = 14695981039346656037

// byWords computes the digest of bytes as the chapter says, with integers of any size.
func byWords(s string) uint64 {
	d, size := new(big.Int).SetUint64(none), new(big.Int).Lsh(big.NewInt(1), 64)
	for i := 0; i < len(s); i++ {
		d.Xor(d, big.NewInt(int64(s[i])))
		d.Mod(d.Mul(d, big.NewInt(1099511628211)), size)
	}
	return d.Uint64()
}

// inBytes writes a digest as its bytes, the highest one first.
func inBytes(d uint64) string {
	var b strings.Builder
	for _, place := range []uint64{1 << 56, 1 << 48, 1 << 40, 1 << 32, 1 << 24, 1 << 16, 1 << 8, 1} {
		b.WriteByte(byte(d / place % 256))
	}
	return b.String()
}

// inText writes what Next makes a digest of.
func inText(d uint64, l []int) string {
	s := inBytes(d)
	for _, n := range l {
		s += big.NewInt(int64(n)).String() + " "
	}
	return s
}

// texts has texts of all sorts: of whole runes, of bytes that are none, and of both.
func texts() []string {
	l := []string{
		"", "a", "b", "foobar", " ", "0", "5 -1 ", "\x00", "\x00\x00", "a\x00", "\x7f",
		"é", "ß", "€", "日本", "😀", "aé€😀b", "\ufeff", "\U0010ffff",
		// The rune that stands for what is none, and bytes that are read as it.
		"\ufffd", "\ufffd\ufffd", "\x80", "\xbf", "\xc0", "\xff", "\xfe\xff", "a\xffb", "\xff\ufffd\xff",
		// Runes that are cut off, too long, beyond all runes, or halves of a pair; bytes that go on without a beginning.
		"\xc3", "\xe2\x82", "\xe2", "\xf0\x9f\x98", "\xf0\x9f", "\xe2\x82\xe2\x82\xac", "\xc3é", "\xe2\x82a", "\xf0\x9f\x98€",
		"\xc0\x80", "\xe0\x80\x80", "\xf4\x90\x80\x80", "\xed\xa0\x80", "\xed\xb0\x80", "é\x80", "€\x80\x80", "\x80\x80\x80\x80",
		strings.Repeat("x", 1000), strings.Repeat("€\xff", 300),
	}
	random := rand.New(rand.NewSource(1))
	for k := range 200 {
		b := make([]byte, random.Intn(40))
		for i := range b {
			// Every second text has high bytes only, in which there are more runes of several bytes, whole and cut off.
			b[i] = byte(random.Intn(256) | k%2<<7)
		}
		l = append(l, string(b))
	}
	return l
}

// same has texts of one digest, which is 0.
func same() []string {
	l := []string{"\xd5\x6b\xb9\x53\x42\x87\x08\x36", "!0IC=VloaY", "QvXtM>@Fp%", "77kepQFQ8Kl"}
	for _, s := range l {
		l = append(l, s+"\x00", s+"\x00\x00\x00")
	}
	return l
}

// near has pairs of texts with digests that differ in nothing but the lowest byte, the one that the next byte is combined with.
func near() [][2]string {
	return [][2]string{{"Jq4JXdI1qI", "0qo+1awVBQ"}, {"fTjOAEcxys", "wzz4gPAhD9"}, {"7JJMxYku53", "q4-dxhdDYx"}}
}

// digests has the least and greatest digests, some with one byte other than 0, and others.
func digests() []uint64 {
	l := []uint64{0, 1, 97, 255, 256, math.MaxInt64, 1 << 63, math.MaxUint64, math.MaxUint64 - 1, none, none + 1, 0x0102030405060708, 0xf09f9880e282acc3, 0x8080808080808080, 0xe282ac000000e282}
	for place := range 8 {
		l = append(l, 0xff<<(8*place), 0x80<<(8*place), 1<<(8*place))
	}
	random := rand.New(rand.NewSource(2))
	for range 20 {
		l = append(l, random.Uint64())
	}
	return l
}

// lists has lists of integers of both signs and of all lengths of digits.
func lists() [][]int {
	l := [][]int{
		nil, {}, {0}, {1}, {-1}, {7}, {5, -1}, {-5, 1}, {51}, {5, 1}, {0, 0}, {0, 0, 0}, {-10, 10}, {1, 2, 3}, {3, 2, 1},
		{math.MaxInt}, {math.MinInt}, {math.MaxInt, math.MinInt}, {math.MinInt + 1, math.MaxInt - 1}, {api.MaxID, api.MaxTime, -api.MaxSpan},
	}
	tens := 1
	for range 19 {
		l = append(l, []int{tens, -tens}, []int{tens - 1, 1 - tens}, []int{tens + 1, 12, -tens - 1})
		tens *= 10
	}
	random := rand.New(rand.NewSource(3))
	for n := range 40 {
		var some []int
		for range n {
			some = append(some, int(random.Uint64())>>random.Intn(64))
		}
		l = append(l, some)
	}
	return l
}

// digits has integers that are not negative, of all lengths.
func digits() []int {
	l := []int{0, 5, 9, 10, 15, 19, 99, 100, 101, 109, 999999, api.MaxID, api.MaxSpan, math.MaxInt - 10, math.MaxInt - 7, math.MaxInt}
	random := rand.New(rand.NewSource(4))
	for k := range 60 {
		l = append(l, random.Int()>>k)
	}
	return l
}

// otherDigits returns the integers that differ from one in the last digit only.
func otherDigits(n int) []int {
	var l []int
	for digit := range 10 {
		// What is above the greatest int wraps around to a negative one.
		if m := n/10*10 + digit; m != n && m >= 0 {
			l = append(l, m)
		}
	}
	return l
}

// otherBytes calls a function with each text that differs from one in exactly one byte.
func otherBytes(s string, f func(other string)) {
	for i := range len(s) {
		for b := range 256 {
			if byte(b) != s[i] {
				f(s[:i] + string([]byte{byte(b)}) + s[i+1:])
			}
		}
	}
}

func TestP5_1_TextExamples(t *testing.T) {
	for _, x := range []struct {
		s string
		d uint64
	}{
		{"", 14695981039346656037}, {"a", 12638187200555641996}, {"foobar", 9625390261332436968},
		{"b", 0xaf63df4c8601f1a5}, {"fo", 0x08985907b541d342}, {"foob", 0xdd120e790c2512af}, {"\x00", 0xaf63bd4c8601b7df}, {"\xff\x00\x00\x01", 0x6961196491cc682d},
	} {
		if d := Text(x.s); d != x.d {
			t.Errorf("Text(%q): %d instead of %d", x.s, d, x.d)
		}
	}
}

func TestP5_1_TextOfAllBytes(t *testing.T) {
	for b := range 256 {
		for c := range 256 {
			for _, l := range [][]byte{{byte(b)}, {byte(b), byte(c)}, {0xe2, byte(b), byte(c)}, {0xf0, 0x9f, byte(b), byte(c), 'z'}} {
				h := fnv.New64a()
				h.Write(l)
				if d := Text(string(l)); d != h.Sum64() {
					t.Fatalf("Text(%q): %d instead of %d", l, d, h.Sum64())
				}
			}
		}
	}
}

func TestP5_1_TextByWords(t *testing.T) {
	for _, s := range append(texts(), same()...) {
		if d := Text(s); d != byWords(s) {
			t.Fatalf("Text(%q): %d instead of %d", s, d, byWords(s))
		}
	}
}

func TestP5_1_NextExamples(t *testing.T) {
	for _, x := range []struct {
		d uint64
		l []int
		s string
	}{
		{97, []int{5, -1}, "\x00\x00\x00\x00\x00\x00\x00\x615 -1 "}, {0, nil, "\x00\x00\x00\x00\x00\x00\x00\x00"}, {0, []int{0}, "\x00\x00\x00\x00\x00\x00\x00\x000 "},
		{0x0102030405060708, []int{10, 100, -120}, "\x01\x02\x03\x04\x05\x06\x07\x0810 100 -120 "}, {1 << 63, []int{1}, "\x80\x00\x00\x00\x00\x00\x00\x001 "},
		{math.MaxUint64, []int{math.MaxInt, math.MinInt}, "\xff\xff\xff\xff\xff\xff\xff\xff9223372036854775807 -9223372036854775808 "},
		{0xf09f9880e282acc3, []int{-5}, "😀€\xc3-5 "},
	} {
		if d := Next(x.d, x.l...); d != byWords(x.s) {
			t.Errorf("Next(%d, %v): %d is not the digest of %q", x.d, x.l, d, x.s)
		}
	}
}

func TestP5_1_NextByWords(t *testing.T) {
	for _, d := range digests() {
		for _, l := range lists() {
			if next := Next(d, l...); next != byWords(inText(d, l)) {
				t.Fatalf("Next(%d, %v): %d", d, l, next)
			}
		}
	}
}

func TestP5_1_Sum(t *testing.T) {
	if d := Sum(7); d != Next(14695981039346656037, 7) {
		t.Errorf("Sum(7): %d", d)
	}
	for _, l := range lists() {
		d := Sum(l...)
		if d != Next(none, l...) || d != byWords(inText(none, l)) {
			t.Fatalf("Sum(%v): %d", l, d)
		}
	}
}

func TestP5_1_WhereIntegersEnd(t *testing.T) {
	for _, x := range [][2][]int{{{1, 2}, {12}}, {{1, 2}, {2, 1}}, {{1}, {1, 0}}, {{}, {0}}, {{1, -2}, {-1, 2}}, {{-1}, {1}}, {{11, 1}, {1, 11}}, {{0}, {0, 0}}} {
		if Sum(x[0]...) == Sum(x[1]...) {
			t.Errorf("Sum(%v) is that of %v", x[0], x[1])
		}
	}
}

func TestP5_2_OneByte(t *testing.T) {
	for _, s := range append(texts(), same()...) {
		if len(s) > 100 {
			s = s[:100]
		}
		d := Text(s)
		otherBytes(s, func(other string) {
			if Text(other) == d {
				t.Fatalf("Text(%q) is that of %q", s, other)
			}
		})
	}
}

func TestP5_2_AllOfOnePlace(t *testing.T) {
	for _, around := range [][2]string{{"", ""}, {"a", ""}, {"", "a"}, {"landfall ", " landfall"}, {"\xe2", "\xac"}, {"\xf0\x9f", "\x80é"}} {
		seen := map[uint64]bool{}
		for b := range 256 {
			seen[Text(around[0]+string([]byte{byte(b)})+around[1])] = true
		}
		if len(seen) != 256 {
			t.Errorf("a byte between %q and %q makes %d digests", around[0], around[1], len(seen))
		}
	}
}

func TestP5_3_SameStaySame(t *testing.T) {
	for _, s := range same() {
		if d := Text(s); d != 0 {
			t.Fatalf("Text(%q): %d", s, d)
		}
		for _, after := range texts() {
			if Text(s+after) != Text(same()[0]+after) {
				t.Fatalf("Text(%q) is not that of %q", s+after, same()[0]+after)
			}
		}
	}
}

func TestP5_3_DifferentStayDifferent(t *testing.T) {
	befores := append(texts(), same()[0])
	for _, after := range texts() {
		seen := map[uint64]string{}
		for _, s := range befores {
			d := Text(s + after)
			if other, is := seen[d]; is && Text(s) != Text(other) {
				t.Fatalf("Text(%q) is that of %q", s+after, other+after)
			}
			seen[d] = s
		}
	}
}

func TestP5_3_NearStayDifferent(t *testing.T) {
	for _, x := range near() {
		if Text(x[0])>>8 != Text(x[1])>>8 {
			t.Fatalf("the digests of %q and %q are not near", x[0], x[1])
		}
		for b := range 256 {
			for _, after := range []string{string([]byte{byte(b)}), string([]byte{0xe2, byte(b), 0xac}), string([]byte{byte(b), 'z'})} {
				if Text(x[0]+after) == Text(x[1]+after) {
					t.Fatalf("Text(%q) is that of %q", x[0]+after, x[1]+after)
				}
			}
		}
	}
}

func TestP5_3_ManyTexts(t *testing.T) {
	befores, afters := map[uint64]string{}, map[uint64]string{}
	for k := range 100000 {
		s := fmt.Sprint(k*k*k, k)
		d, after := Text(s), Text(s+"€1")
		before, hasBefore := befores[d]
		other, hasOther := afters[after]
		if hasBefore && Text(before+"€1") != after || hasOther && Text(other) != d {
			t.Fatalf("%q has the digest of %q or of %q only without, or only with, what follows", s, before, other)
		}
		befores[d], afters[after] = s, s
	}
}

func TestP5_3_CutAnywhere(t *testing.T) {
	// What follows counts as bytes, even if it begins or ends within a rune.
	one, two := same()[1], same()[2]
	for _, s := range texts() {
		for i := 0; i <= len(s) && i < 50; i++ {
			if Text(one+s[:i]) != Text(two+s[:i]) || Text(one+s[i:]) != Text(two+s[i:]) {
				t.Fatalf("after texts with the same digest, the parts of %q before or after %d lead to different ones", s, i)
			}
		}
	}
}

func TestP5_4_Texts(t *testing.T) {
	for _, d := range digests() {
		for _, l := range lists() {
			if next, text := Next(d, l...), Text(inText(d, l)); next != text {
				t.Fatalf("Next(%d, %v): %d, but Text(%q): %d", d, l, next, inText(d, l), text)
			}
		}
	}
}

func TestP5_4_TextsOfPrinted(t *testing.T) {
	for n := -2000; n <= 2000; n++ {
		if Next(uint64(n), n) != Text(inBytes(uint64(n))+fmt.Sprintf("%d ", n)) || Sum(n, -n) != Text(inBytes(none)+fmt.Sprintf("%d %d ", n, -n)) {
			t.Fatalf("the digests of %d are not those of its text", n)
		}
	}
}

func TestP5_5_Digits(t *testing.T) {
	for _, l := range [][]int{{0}, {0, 0, 0}, {-5, 17, 3, math.MinInt}, {1, 2, 3, 4, 5, 6, 7, 8, 9, 10}} {
		for i := range l {
			for _, n := range digits() {
				with := slices.Clone(l)
				with[i] = n
				for _, m := range otherDigits(n) {
					other := slices.Clone(with)
					other[i] = m
					if Sum(with...) == Sum(other...) || Next(97, with...) == Next(97, other...) || Next(0, with...) == Next(0, other...) {
						t.Fatalf("the digests of %v are those of %v", with, other)
					}
				}
			}
		}
	}
}

func TestP5_6_Chains(t *testing.T) {
	for _, l := range [][]int{nil, {0}, {5, -1}, {math.MaxInt, math.MinInt}, {1, 2, 3, 4, 5, 6, 7, 8, 9}} {
		for _, d := range digests() {
			next := Next(d, l...)
			for place := range 8 {
				for change := uint64(1); change < 256; change++ {
					other := d ^ change<<(8*place)
					if Next(other, l...) == next {
						t.Fatalf("Next of %d and of %d, with %v, are the same", d, other, l)
					}
				}
			}
		}
	}
}

func TestP5_6_LongChains(t *testing.T) {
	d := Sum(3)
	for link := range 300 {
		place, change := link%8, uint64(link%255+1)
		next, other := Next(d, link, -link), Next(d^change<<(8*place), link, -link)
		if next == other {
			t.Fatalf("link %d: a change by %d of byte %d is lost", link, change, place)
		}
		d = next
	}
}

func TestP1_AllArgumentsEnd(t *testing.T) {
	if Sum() != Sum([]int{}...) || Sum() != Sum(nil...) || Next(1) != Next(1, []int{}...) || Sum() != Text(inBytes(none)) {
		t.Errorf("no integers, an empty list and none at all have different digests")
	}
	long := strings.Repeat("\xf0\x9f\x98\x80\xf0\x9f", 200000)
	h := fnv.New64a()
	h.Write([]byte(long))
	if d := Text(long); d != h.Sum64() {
		t.Errorf("the digest of a long text: %d", d)
	}
	many := make([]int, 200000)
	for i := range many {
		many[i] = math.MinInt + i
	}
	h = fnv.New64a()
	h.Write([]byte(inBytes(none)))
	for _, n := range many {
		fmt.Fprintf(h, "%d ", n)
	}
	if d := Sum(many...); d != h.Sum64() {
		t.Errorf("the digest of many integers: %d", d)
	}
}

func TestP1_ArgumentsAlone(t *testing.T) {
	for _, l := range lists() {
		before := slices.Clone(l)
		sum, next, text := Sum(l...), Next(97, l...), Text("a")
		if !slices.Equal(l, before) {
			t.Fatalf("%v became %v", before, l)
		}
		if Sum(l...) != sum || Next(97, l...) != next || Text("a") != text {
			t.Fatalf("the digests of %v are others the second time", l)
		}
		// A list that has room for more has the same digest as one that has not.
		if roomy := append(make([]int, 0, len(l)+9), l...); Sum(roomy...) != sum {
			t.Fatalf("the digest of %v depends on its capacity", l)
		}
	}
}
