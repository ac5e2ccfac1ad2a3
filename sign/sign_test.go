package sign

import (
	"math"
	"math/big"
	"math/rand"
	"slices"
	"testing"

	"landfall/api"
	"landfall/digest"
)

func mustExp(t *testing.T, a, x int) int {
	t.Helper()
	n, e := Exp(a, x)
	if e != api.OK {
		t.Fatalf("Exp(%d, %d): %v", a, x, e)
	}
	return n
}

func mustPublic(t *testing.T, secret int) int {
	t.Helper()
	n, e := Public(secret)
	if e != api.OK {
		t.Fatalf("Public(%d): %v", secret, e)
	}
	return n
}

func mustSign(t *testing.T, secret, once int, message ...int) api.Sig {
	t.Helper()
	s, e := Sign(secret, once, message...)
	if e != api.OK {
		t.Fatalf("Sign(%d, %d, %v): %v", secret, once, short(message), e)
	}
	return s
}

func mustVerify(t *testing.T, public int, s api.Sig, message ...int) bool {
	t.Helper()
	is, e := Verify(public, s, message...)
	if e != api.OK {
		t.Fatalf("Verify(%d, %v, %v): %v", public, s, short(message), e)
	}
	return is
}

// asWords checks Verify against the chapter's words, and returns whether a signature is right.
func asWords(t *testing.T, public int, s api.Sig, message ...int) bool {
	t.Helper()
	want, no := rightness(public, s, message)
	is, e := Verify(public, s, message...)
	if is != want || e != no {
		t.Fatalf("Verify(%d, %v, %v): %t, %v instead of %t, %v", public, s, short(message), is, e, want, no)
	}
	return is
}

func TestP11_1_Constants(t *testing.T) {
	if api.P != p || api.Q != q || api.G != 4 || p != 2*q+1 || !large(p).ProbablyPrime(20) || !large(q).ProbablyPrime(20) {
		t.Errorf("P %d, Q %d, G %d", api.P, api.Q, api.G)
	}
}

func TestP11_1_MemberExamples(t *testing.T) {
	for a, is := range map[int]bool{4: true, 9: true, 2: false, 0: false, 1: true, 3: true, 16: true, 64: true, 1024: true, -1: false, -4: false, p - 1: false, p - 4: false, p - 2: true, p: false, p + 1: false, p + 4: false, 4 - p: false, 2*p + 4: false, math.MaxInt: false, math.MinInt: false} {
		if Member(a) != is {
			t.Errorf("Member(%d) is not %t", a, is)
		}
	}
}

func TestP11_1_MemberByWords(t *testing.T) {
	random := rand.New(rand.NewSource(1))
	for i := range 20000 {
		for _, a := range []int{i, -i, p - i, p + i, q + i, q - i, 2*p + i, 1<<31 + i, 1<<32 + i, random.Intn(p), int(random.Uint64())} {
			if is := 1 <= a && a <= p-1 && big.Jacobi(large(a), large(p)) == 1; Member(a) != is {
				t.Fatalf("Member(%d) is not %t", a, is)
			}
		}
	}
	for _, a := range append(elements(), noElements()...) {
		if Member(a) != isElement(a) {
			t.Errorf("Member(%d) is not %t", a, isElement(a))
		}
	}
}

// Exactly one of two numbers that are P together is an element, since P - 1 is none.
func TestP11_1_MemberHalf(t *testing.T) {
	random := rand.New(rand.NewSource(2))
	for range 50000 {
		a := random.Intn(p-1) + 1
		if Member(a) == Member(p-a) {
			t.Fatalf("Member(%d) is Member(%d)", a, p-a)
		}
	}
}

func TestP11_1_ExpExamples(t *testing.T) {
	for _, c := range []struct{ a, x, want int }{
		{4, 3, 64}, {4, 0, 1}, {4, 1, 4}, {4, 5, 1024}, {9, 0, 1}, {9, 2, 81}, {1, 0, 1}, {1, 5, 1}, {1, q - 1, 1}, {4, 15, 1 << 30}, {4, 16, 138}, {4, q - 1, 536870895}, {p - 2, 1, p - 2}, {p - 2, 2, 4}, {p - 2, 3, p - 8},
	} {
		if n, e := Exp(c.a, c.x); n != c.want || e != api.OK {
			t.Errorf("Exp(%d, %d): %d, %v instead of %d", c.a, c.x, n, e, c.want)
		}
	}
}

func TestP11_1_ExpByWords(t *testing.T) {
	for _, a := range elements() {
		for _, x := range exponents() {
			if n, e := Exp(a, x); n != powerOf(a, x) || e != api.OK {
				t.Fatalf("Exp(%d, %d): %d, %v instead of %d", a, x, n, e, powerOf(a, x))
			}
		}
	}
}

func TestP11_1_ExpErrors(t *testing.T) {
	refused := func(a, x int) {
		t.Helper()
		if n, e := Exp(a, x); n != 0 || e != api.ErrArg {
			t.Errorf("Exp(%d, %d): %d, %v", a, x, n, e)
		}
	}
	for _, a := range noElements() {
		for _, x := range append(exponents()[:5], -1, q-1, q, math.MaxInt) {
			refused(a, x)
		}
	}
	for _, x := range noExponents() {
		for _, a := range []int{1, 4, 9, p - 2, 2, 0} {
			refused(a, x)
		}
	}
}

func TestP11_1_Public(t *testing.T) {
	for _, c := range [][2]int{{5, 1024}, {1, 4}, {2, 16}, {15, 1 << 30}, {728307127, 252882231}} {
		if n, e := Public(c[0]); n != c[1] || e != api.OK {
			t.Errorf("Public(%d): %d, %v instead of %d", c[0], n, e, c[1])
		}
	}
	for _, x := range secrets() {
		if n, e := Public(x); n != powerOf(4, x) || e != api.OK {
			t.Errorf("Public(%d): %d, %v instead of %d", x, n, e, powerOf(4, x))
		}
	}
	for _, x := range append(noExponents(), 0) {
		if n, e := Public(x); n != 0 || e != api.ErrArg {
			t.Errorf("Public(%d): %d, %v", x, n, e)
		}
	}
}

func TestP11_1_SignExamples(t *testing.T) {
	for _, x := range append(extremes(), signing{5, 7, []int{1, 2}, api.Sig{E: 38522730, S: 192613657}}) {
		if s, e := Sign(x.secret, x.once, x.message...); s != x.sig || e != api.OK {
			t.Errorf("Sign(%d, %d, %v): %v, %v instead of %v", x.secret, x.once, x.message, s, e, x.sig)
		}
		if is, e := Verify(powerOf(4, x.secret), x.sig, x.message...); !is || e != api.OK {
			t.Errorf("Verify(%d, %v, %v): %t, %v", powerOf(4, x.secret), x.sig, x.message, is, e)
		}
	}
}

func TestP11_1_SignByWords(t *testing.T) {
	for _, message := range messages() {
		for _, secret := range someSecrets() {
			for _, once := range someSecrets() {
				want := signed(secret, once, message)
				if s, e := Sign(secret, once, message...); s != want || e != api.OK {
					t.Fatalf("Sign(%d, %d, %v): %v, %v instead of %v", secret, once, short(message), s, e, want)
				}
			}
		}
	}
	for _, secret := range secrets() {
		for _, once := range secrets() {
			if s, e := Sign(secret, once, 1, 2); s != signed(secret, once, []int{1, 2}) || e != api.OK {
				t.Fatalf("Sign(%d, %d, 1, 2): %v, %v", secret, once, s, e)
			}
		}
	}
}

// Half of the digests are above the greatest int, and most exponents E times a secret are above Q.
func TestP11_1_SignDigests(t *testing.T) {
	above, random := 0, rand.New(rand.NewSource(3))
	for range 2000 {
		secret, once, n := random.Intn(q-1)+1, random.Intn(q-1)+1, int(random.Uint64())
		d := digest.Sum(powerOf(4, once), powerOf(4, secret), n)
		if d > math.MaxInt {
			above++
		}
		s := mustSign(t, secret, once, n)
		if s.E != int(d%q) || s != signed(secret, once, []int{n}) || !mustVerify(t, powerOf(4, secret), s, n) {
			t.Fatalf("Sign(%d, %d, %d): %v with the digest %d", secret, once, n, s, d)
		}
	}
	if above < 500 || above > 1500 {
		t.Errorf("%d digests are above the greatest int", above)
	}
}

func TestP11_1_SignErrors(t *testing.T) {
	refused := func(secret, once int, message ...int) {
		t.Helper()
		if s, e := Sign(secret, once, message...); s != (api.Sig{}) || e != api.ErrArg {
			t.Errorf("Sign(%d, %d, %v): %v, %v", secret, once, message, s, e)
		}
	}
	none := append(noExponents(), 0)
	for _, x := range none {
		for _, message := range [][]int{nil, {0}, {1, 2}} {
			refused(x, 7, message...)
			refused(7, x, message...)
			refused(x, 1, message...)
			refused(q-1, x, message...)
			for _, y := range none {
				refused(x, y, message...)
			}
		}
	}
}

func TestP11_1_VerifyExamples(t *testing.T) {
	right := api.Sig{E: 38522730, S: 192613657}
	for _, c := range []struct {
		public  int
		s       api.Sig
		message []int
		is      bool
	}{
		{1024, right, []int{1, 2}, true}, {1024, right, []int{2, 1}, false}, {1024, right, []int{1}, false}, {1024, right, []int{1, 2, 0}, false}, {1024, right, []int{12}, false}, {1024, right, nil, false},
		{4096, right, []int{1, 2}, false}, {1, right, []int{1, 2}, false}, {4, right, []int{1, 2}, false}, {252882231, right, []int{1, 2}, true},
		{1024, api.Sig{E: 192613657, S: 38522730}, []int{1, 2}, false}, {1024, api.Sig{E: 38522730}, []int{1, 2}, false}, {1024, api.Sig{S: 192613657}, []int{1, 2}, false}, {1024, api.Sig{}, []int{1, 2}, false},
		{1024, api.Sig{E: 38522730, S: q - 1}, []int{1, 2}, false}, {1024, api.Sig{E: q - 1, S: 192613657}, []int{1, 2}, false}, {1024, api.Sig{E: q - 38522730, S: 192613657}, []int{1, 2}, false},
	} {
		if is, e := Verify(c.public, c.s, c.message...); is != c.is || e != api.OK {
			t.Errorf("Verify(%d, %v, %v): %t, %v instead of %t", c.public, c.s, c.message, is, e, c.is)
		}
	}
}

func TestP11_1_VerifyByWords(t *testing.T) {
	random := rand.New(rand.NewSource(4))
	for _, public := range append(elements(), noElements()[:30]...) {
		for _, message := range messages()[:20] {
			// The challenge asked for, put in for E, changes what is asked for, unless the key is 1.
			s := api.Sig{E: random.Intn(q), S: random.Intn(q)}
			asWords(t, public, s, message...)
			if isElement(public) {
				asWords(t, public, api.Sig{E: askedFor(public, s, message), S: s.S}, message...)
			}
		}
	}
	for _, secret := range someSecrets() {
		for _, message := range messages() {
			s := signed(secret, 7, message)
			if !asWords(t, powerOf(4, secret), s, message...) {
				t.Fatalf("the signature %v of %v by %d is not right", s, short(message), secret)
			}
			asWords(t, powerOf(4, secret+1), s, message...)
		}
	}
}

// Nobody has the secret 0, and no number used once is 0, but its powers are elements, so there are right signatures.
func TestP11_1_VerifyWithoutSecrets(t *testing.T) {
	for _, message := range messages() {
		for _, x := range exponents() {
			for _, c := range []struct {
				public int
				s      api.Sig
			}{
				{1, api.Sig{E: challengeOf(powerOf(4, x), 1, message), S: x}},
				{powerOf(4, x), api.Sig{E: challengeOf(1, powerOf(4, x), message), S: productQ(challengeOf(1, powerOf(4, x), message), x)}},
			} {
				if is, e := Verify(c.public, c.s, message...); !is || e != api.OK {
					t.Fatalf("Verify(%d, %v, %v): %t, %v", c.public, c.s, short(message), is, e)
				}
			}
		}
	}
}

func TestP11_1_VerifyErrors(t *testing.T) {
	right := api.Sig{E: 38522730, S: 192613657}
	refused := func(public int, s api.Sig) {
		t.Helper()
		if is, e := Verify(public, s, 1, 2); is || e != api.ErrArg {
			t.Errorf("Verify(%d, %v, 1, 2): %t, %v", public, s, is, e)
		}
	}
	for _, public := range append(noElements(), 1024+p, 1024-p, 1024+2*p, 1024+1<<32) {
		for _, s := range []api.Sig{right, {}, {E: q - 1, S: q - 1}, {E: q}, {S: -1}} {
			refused(public, s)
		}
	}
	// Modulo Q, most of these are exponents, and some of them those of the right signature.
	for _, n := range append(noExponents(), right.E+q, right.E-q, right.S+q, right.S-q, right.E+1<<32, right.S-1<<32) {
		for _, public := range []int{1024, 1, 4, p - 2, 2, 0} {
			refused(public, api.Sig{E: n, S: right.S})
			refused(public, api.Sig{E: right.E, S: n})
			refused(public, api.Sig{E: n})
			refused(public, api.Sig{S: n})
			refused(public, api.Sig{E: n, S: n})
		}
	}
	// These are right modulo Q, with the least E and S.
	for _, x := range extremes() {
		for _, s := range []api.Sig{{E: x.sig.E + q, S: x.sig.S}, {E: x.sig.E - q, S: x.sig.S}, {E: x.sig.E, S: x.sig.S + q}, {E: x.sig.E, S: x.sig.S - q}} {
			if is, e := Verify(powerOf(4, x.secret), s, x.message...); is || e != api.ErrArg {
				t.Errorf("Verify(%d, %v, %v): %t, %v", powerOf(4, x.secret), s, x.message, is, e)
			}
		}
	}
}

func TestP11_2_PowersAreElements(t *testing.T) {
	for _, a := range elements() {
		for _, x := range exponents() {
			if n := mustExp(t, a, x); !Member(n) || !isElement(n) {
				t.Fatalf("Exp(%d, %d): %d, which is no element", a, x, n)
			}
		}
	}
	for _, x := range secrets() {
		if n := mustPublic(t, x); !Member(n) || !isElement(n) || n != mustExp(t, 4, x) {
			t.Fatalf("Public(%d): %d", x, n)
		}
	}
}

func TestP11_2_PowersOfPowers(t *testing.T) {
	for _, a := range []int{1, 4, 9, 1024, 252882231, p - 2, elements()[len(elements())-1]} {
		for _, x := range exponents() {
			power := mustExp(t, a, x)
			for _, y := range exponents() {
				if n, want := mustExp(t, power, y), mustExp(t, a, productQ(x, y)); n != want {
					t.Fatalf("%d to the power of %d, to that of %d: %d instead of %d", a, x, y, n, want)
				}
			}
		}
	}
}

// An exponent and the one that times it is 1 modulo Q lead there and back.
func TestP11_2_ThereAndBack(t *testing.T) {
	for _, a := range elements() {
		for _, x := range secrets() {
			if n := mustExp(t, mustExp(t, a, x), quotientQ(1, x)); n != a {
				t.Fatalf("%d to the power of %d, and back: %d", a, x, n)
			}
		}
	}
}

func TestP11_3_SignedIsRight(t *testing.T) {
	for _, secret := range secrets() {
		public := mustPublic(t, secret)
		for _, once := range secrets() {
			if s := mustSign(t, secret, once, secret, -once); !mustVerify(t, public, s, secret, -once) {
				t.Fatalf("what %d signs with %d is not right: %v", secret, once, s)
			}
		}
	}
	for _, message := range messages() {
		for _, secret := range someSecrets() {
			for _, once := range someSecrets() {
				if s := mustSign(t, secret, once, message...); !mustVerify(t, mustPublic(t, secret), s, message...) {
					t.Fatalf("what %d signs with %d is not right: %v, of %v", secret, once, s, short(message))
				}
			}
		}
	}
}

func TestP11_3_ExtremesAreRight(t *testing.T) {
	for _, x := range extremes() {
		if s := mustSign(t, x.secret, x.once, x.message...); !mustVerify(t, mustPublic(t, x.secret), s, x.message...) {
			t.Errorf("what %d signs with %d is not right: %v, of %v", x.secret, x.once, s, x.message)
		}
	}
}

func TestP11_3_ManyAreRight(t *testing.T) {
	random := rand.New(rand.NewSource(5))
	for range 20000 {
		secret, once, message := random.Intn(q-1)+1, random.Intn(q-1)+1, some(random, random.Intn(6))
		if s := mustSign(t, secret, once, message...); !mustVerify(t, mustPublic(t, secret), s, message...) {
			t.Fatalf("what %d signs with %d is not right: %v, of %v", secret, once, s, message)
		}
	}
}

// Beside a right signature, with one thing changed, there is hardly another one.
func TestP11_4_OtherThings(t *testing.T) {
	for _, message := range messages()[:20] {
		for _, secret := range someSecrets() {
			public, s := powerOf(4, secret), signed(secret, 7, message)
			if !asWords(t, public, s, message...) {
				t.Fatalf("%v is not right for %d and %v", s, public, short(message))
			}
			for _, x := range exponents() {
				asWords(t, public, api.Sig{E: x, S: s.S}, message...)
				asWords(t, public, api.Sig{E: s.E, S: x}, message...)
				asWords(t, powerOf(4, x), s, message...)
				asWords(t, public, s, append([]int{x}, message...)...)
				asWords(t, public, s, append(slices.Clone(message), -x)...)
			}
		}
	}
}

// Each bit of E and S counts, and so does each integer of the message, and their order.
func TestP11_4_EachBit(t *testing.T) {
	message := []int{3, 1, 4, 1, 5, 9, 2, 6}
	s := mustSign(t, 12345, 67890, message...)
	public := mustPublic(t, 12345)
	for i := range 30 {
		for _, other := range []api.Sig{{E: s.E ^ 1<<i, S: s.S}, {E: s.E, S: s.S ^ 1<<i}, {E: s.E ^ 1<<i, S: s.S ^ 1<<i}} {
			if isSmall(other.E) && isSmall(other.S) && mustVerify(t, public, other, message...) {
				t.Errorf("%v is right, and so is %v", s, other)
			}
		}
	}
	for i := range message {
		less, swapped := slices.Delete(slices.Clone(message), i, i+1), slices.Clone(message)
		swapped[i], swapped[0] = swapped[0], swapped[i]
		if mustVerify(t, public, s, less...) || mustVerify(t, public, s, swapped...) != slices.Equal(swapped, message) {
			t.Errorf("%v is right without, or with another place of, integer %d", s, i)
		}
		for bit := range 64 {
			other := slices.Clone(message)
			other[i] ^= 1 << bit
			if mustVerify(t, public, s, other...) {
				t.Errorf("%v is right with bit %d of integer %d changed", s, bit, i)
			}
		}
	}
}

func TestP11_4_MessagesThatAgree(t *testing.T) {
	public := mustPublic(t, 5)
	for _, x := range agreeing() {
		s := mustSign(t, 5, 7, x[0]...)
		if s != mustSign(t, 5, 7, x[1]...) || !mustVerify(t, public, s, x[1]...) || !mustVerify(t, public, s, x[0]...) {
			t.Errorf("%v and %v have the same challenge, but %v is not right for both", x[0], x[1], s)
		}
		// With another number used once the challenges of these messages do not agree.
		if s = mustSign(t, 5, 8, x[0]...); mustVerify(t, public, s, x[1]...) {
			t.Errorf("%v is right for %v and %v", s, x[0], x[1])
		}
	}
}

func TestP11_4_OthersThatAgree(t *testing.T) {
	public := mustPublic(t, 5)
	for _, x := range agreeingOnces() {
		one, two := mustSign(t, 5, x[0], 1, 2), mustSign(t, 5, x[1], 1, 2)
		if one.E != two.E || one.S == two.S || !mustVerify(t, public, one, 1, 2) || !mustVerify(t, public, two, 1, 2) {
			t.Errorf("%v and %v have the same challenge, but are not both right", one, two)
		}
		if mustVerify(t, public, api.Sig{E: one.E, S: (one.S + 1) % q}, 1, 2) {
			t.Errorf("with the next S, %v is right", one)
		}
	}
	// Of all keys of secrets, these two are those for which this signature is right.
	s := mustSign(t, 5, 7, 1, 2)
	for _, secret := range append([]int{5, 728307127}, secrets()...) {
		if mustVerify(t, mustPublic(t, secret), s, 1, 2) != (secret == 5 || secret == 728307127) {
			t.Errorf("for the secret %d, %v is right", secret, s)
		}
	}
}

func TestP11_5_SecretsAreShown(t *testing.T) {
	list := messages()
	for _, secret := range someSecrets() {
		for _, once := range someSecrets() {
			for i, message := range list {
				other := list[(i+1)%len(list)]
				one, two := mustSign(t, secret, once, message...), mustSign(t, secret, once, other...)
				if one.E == two.E {
					t.Fatalf("the challenges of %v and %v agree", short(message), short(other))
				}
				if shown := quotientQ(one.S-two.S, one.E-two.E); shown != secret {
					t.Fatalf("%v and %v, signed with %d, show %d instead of %d", one, two, once, shown, secret)
				}
			}
		}
	}
}

func TestP11_5_ExtremesShow(t *testing.T) {
	for _, x := range extremes() {
		one, two := mustSign(t, x.secret, x.once, x.message...), mustSign(t, x.secret, x.once, 3)
		if shown := quotientQ(one.S-two.S, one.E-two.E); shown != x.secret {
			t.Errorf("%v and %v, signed with %d, show %d instead of %d", one, two, x.once, shown, x.secret)
		}
	}
}

// Where the challenges agree, so do the signatures, and nothing is shown.
func TestP11_5_NothingIsShown(t *testing.T) {
	for _, x := range agreeing() {
		if one, two := mustSign(t, 5, 7, x[0]...), mustSign(t, 5, 7, x[1]...); one != two {
			t.Errorf("%v and %v", one, two)
		}
	}
}

func TestP11_6_Secrets(t *testing.T) {
	list, random := secrets(), rand.New(rand.NewSource(6))
	for i := range 20000 {
		list = append(list, i+1, q-1-i, q/2+i, random.Intn(q-1)+1, 1<<29+i)
	}
	of := map[int]int{}
	for _, x := range list {
		public := mustPublic(t, x)
		if other, is := of[public]; is && other != x {
			t.Fatalf("Public(%d) and Public(%d) are both %d", x, other, public)
		}
		of[public] = x
	}
}

// Secrets that differ in one bit, or are Q together, have different keys, and none has the key 1.
func TestP11_6_NearSecrets(t *testing.T) {
	for _, x := range secrets() {
		public := mustPublic(t, x)
		if public == 1 || public == mustPublic(t, q-x) {
			t.Errorf("Public(%d): %d", x, public)
		}
		for i := range 30 {
			if other := x ^ 1<<i; other > 0 && other < q && mustPublic(t, other) == public {
				t.Errorf("Public(%d) is Public(%d)", x, other)
			}
		}
	}
}

// The next secret has G times the key, and the keys of secrets that are Q together are 1 together: so keys repeat only after all of the group, since Q is prime.
func TestP11_6_Steps(t *testing.T) {
	for _, x := range secrets() {
		public := mustPublic(t, x)
		if x+1 < q && mustPublic(t, x+1) != public*4%p || public*mustPublic(t, q-x)%p != 1 {
			t.Errorf("Public(%d): %d", x, public)
		}
	}
}

func TestP1_AllArgumentsEnd(t *testing.T) {
	numbers := []int{0, 1, -1, 4, 7, q - 1, q, q + 1, p - 1, p, p + 1, 1024, 1 << 31, 1 << 32, 1 << 62, math.MaxInt, math.MaxInt - 1, math.MinInt, math.MinInt + 1}
	ended := func(is bool, e api.Errno) {
		t.Helper()
		if !is || e != api.OK && e != api.ErrArg {
			t.Fatalf("%t, %v", is, e)
		}
	}
	for _, x := range numbers {
		Member(x)
		n, e := Public(x)
		ended((n == 0) == (e != api.OK), e)
		for _, y := range numbers {
			n, e := Exp(x, y)
			ended((n == 0) == (e != api.OK), e)
			for _, z := range numbers {
				s, e := Sign(x, y, z)
				ended(e == api.OK && isSmall(s.E) && isSmall(s.S) || s == api.Sig{}, e)
				is, e := Verify(x, api.Sig{E: y, S: z}, x, y, z)
				ended(e == api.OK || !is, e)
			}
		}
	}
}

func TestP1_LongMessages(t *testing.T) {
	message := make([]int, 300000)
	for i := range message {
		message[i] = math.MinInt + i
	}
	s := mustSign(t, 5, 7, message...)
	if s != signed(5, 7, message) || !mustVerify(t, 1024, s, message...) {
		t.Errorf("the signature of a long message: %v", s)
	}
	message[len(message)-1]++
	if mustVerify(t, 1024, s, message...) {
		t.Errorf("another long message has the signature %v", s)
	}
}

// No state is kept, messages stay as they are, also where there is room around them, and no message is as an empty one.
func TestP1_ArgumentsAlone(t *testing.T) {
	for _, message := range messages() {
		around := slices.Concat([]int{71, 72}, message, []int{73, 74, 75})
		before := slices.Clone(around)
		roomy := around[2 : 2+len(message)]
		s := mustSign(t, 5, 7, roomy...)
		mustSign(t, 9, 8, 1, 2)
		if s != mustSign(t, 5, 7, message...) || !mustVerify(t, 1024, s, roomy...) || !mustVerify(t, 1024, s, message...) {
			t.Fatalf("the signature of %v is another one the second time", short(message))
		}
		if !slices.Equal(around, before) {
			t.Fatalf("%v became %v", short(before), short(around))
		}
	}
	if s := mustSign(t, 5, 7); s != mustSign(t, 5, 7, []int{}...) || s != mustSign(t, 5, 7, nil...) || !mustVerify(t, 1024, s, []int{}...) {
		t.Errorf("no integers, an empty message and none at all have different signatures")
	}
}
