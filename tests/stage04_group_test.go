package tests

import (
	"math"
	"math/big"
	"slices"
	"testing"

	"loop.example/g00581/impl"
)

const (
	modulusOfGroup = impl.GroupModulus
	orderOfGroup   = impl.FieldSize
)

// expectedPower multiplies one factor after the other; the exponent is not negative.
func expectedPower(base int, exponent int) int {
	product := 1
	for range exponent {
		product = product * base % modulusOfGroup
	}
	return product
}

// reducedExponent is n modulo FieldSize, never negative.
func reducedExponent(n int) int {
	return int(new(big.Int).Mod(big.NewInt(int64(n)), big.NewInt(orderOfGroup)).Int64())
}

// groupElements follows the definition of the group.
func groupElements() []int {
	elements := []int{}
	for x := 1; x < modulusOfGroup; x++ {
		if expectedPower(x, orderOfGroup) == 1 {
			elements = append(elements, x)
		}
	}
	return elements
}

// someGroupElements has 1, the least and the greatest elements, and some between them.
func someGroupElements() []int {
	return []int{1, 2, 3, 4, 5, 16, 18, 64, 510, 1020, 1024, 2028, 2032}
}

// unitsOutsideTheGroup are all integers from 1 to GroupModulus-1 that are not group elements.
func unitsOutsideTheGroup() []int {
	units := []int{}
	for x := 1; x < modulusOfGroup; x++ {
		if expectedPower(x, orderOfGroup) != 1 {
			units = append(units, x)
		}
	}
	return units
}

// nonElements has members of every kind; those outside 1 to GroupModulus-1 are congruent to elements and to others.
func nonElements() []int {
	const m = modulusOfGroup
	return []int{
		0, -1, -2, -4, -m, 1 - m, 4 - m, -m - 1, 4 - 2*m, math.MinInt, math.MinInt + 1,
		m, m + 1, m + 4, 2 * m, 2*m + 1, 2*m + 4, m * m, 1<<32 + 4, 4 + 1000000*m, math.MaxInt, math.MaxInt - 1,
		7, 11, 13, 1019, 1529, m - 4, m - 2, m - 1,
	}
}

// edgeExponents are around 0, FieldSize, its multiples and the ends of the integers.
func edgeExponents() []int {
	const q = orderOfGroup
	return []int{
		0, 1, 2, 3, 4, 509, 510, 511, 512, 513, 1023, 1024, q - 2, q - 1, q, q + 1, 2*q - 1, 2 * q, 2*q + 1, 1000 * q, q * q, 2038, 2039,
		-1, -2, -510, -q + 1, -q, -q - 1, -2 * q, -2*q - 1, -1000 * q, -q * q, impl.MaxValue, -impl.MaxValue, 1 << 32, -1 << 32,
		math.MaxInt / q * q, math.MinInt / q * q, math.MaxInt, math.MaxInt - 1, math.MinInt, math.MinInt + 1,
	}
}

func multiplesOfFieldSize() []int {
	const q = orderOfGroup
	return []int{0, q, -q, 2 * q, -2 * q, 3 * q, 1000 * q, -1000 * q, q * q, -q * q, math.MaxInt / q * q, math.MinInt / q * q}
}

func checkPower(t *testing.T, g int, n int, want int) {
	t.Helper()
	if got := impl.PowGroup(g, n); got != want {
		t.Errorf("PowGroup(%d, %d) = %d, want %d", g, n, got, want)
	}
}

func checkProduct(t *testing.T, a int, b int, want int) {
	t.Helper()
	if got := impl.MulGroup(a, b); got != want {
		t.Errorf("MulGroup(%d, %d) = %d, want %d", a, b, got, want)
	}
}

func checkLog(t *testing.T, g int, x int, want int) {
	t.Helper()
	if got := impl.DiscreteLog(g, x); got != want {
		t.Errorf("DiscreteLog(%d, %d) = %d, want %d", g, x, got, want)
	}
}

func TestGroupConstants(t *testing.T) {
	if impl.GroupModulus != 2039 || impl.FieldSize != 1019 {
		t.Errorf("GroupModulus is %d and FieldSize is %d", impl.GroupModulus, impl.FieldSize)
	}
}

func TestIsGroupElement(t *testing.T) {
	for _, x := range someGroupElements() {
		if !impl.IsGroupElement(x) {
			t.Errorf("IsGroupElement(%d) = false", x)
		}
	}
	for _, x := range append(nonElements(), unitsOutsideTheGroup()...) {
		if impl.IsGroupElement(x) {
			t.Errorf("IsGroupElement(%d) = true", x)
		}
	}
}

func TestIsGroupElementFollowsItsDefinition(t *testing.T) {
	elements := groupElements()
	if len(elements) != orderOfGroup {
		t.Fatalf("the group has %d elements, want FieldSize", len(elements))
	}
	for x := -3 * modulusOfGroup; x <= 3*modulusOfGroup; x++ {
		if got := impl.IsGroupElement(x); got != slices.Contains(elements, x) {
			t.Errorf("IsGroupElement(%d) = %v", x, got)
		}
	}
}

// The squares of these integers wrap around, and some would come out as those of group elements.
func TestIsGroupElementFarFromTheGroup(t *testing.T) {
	for n := range 20000 {
		for _, x := range []int{math.MinInt + n, math.MaxInt - n, 1<<40 + n, -1<<40 - n, 1<<62 + n, -1<<62 - n} {
			if impl.IsGroupElement(x) {
				t.Errorf("IsGroupElement(%d) = true", x)
			}
		}
	}
}

// The group of this order consists of the squares.
func TestGroupElementsAreTheSquares(t *testing.T) {
	squares := map[int]bool{}
	for x := 1; x < modulusOfGroup; x++ {
		squares[x*x%modulusOfGroup] = true
	}
	for x := 0; x <= modulusOfGroup; x++ {
		if got := impl.IsGroupElement(x); got != squares[x] {
			t.Errorf("IsGroupElement(%d) = %v", x, got)
		}
	}
}

func TestPowGroup(t *testing.T) {
	cases := []struct{ g, n, want int }{
		{4, 0, 1}, {4, 1, 4}, {4, 2, 16}, {4, 3, 64}, {4, 5, 1024}, {4, 10, 530},
		{4, 1018, 510}, {4, 1019, 1}, {4, 1020, 4}, {4, -1, 510}, {4, -2, 1147}, {4, -1019, 1},
		{4, math.MinInt, 1936}, {4, math.MaxInt, 1262},
		{2, 5, 32}, {2, 11, 9}, {18, -7, 375},
		{2032, 1018, 1165}, {2032, math.MinInt, 1186}, {2032, math.MaxInt, 405},
	}
	for _, c := range cases {
		checkPower(t, c.g, c.n, c.want)
	}
}

func TestPowGroupMultipliesOneByOne(t *testing.T) {
	for _, g := range groupElements() {
		want := 1
		for n := range orderOfGroup {
			checkPower(t, g, n, want)
			want = want * g % modulusOfGroup
		}
		checkPower(t, g, orderOfGroup, 1)
	}
}

func TestPowGroupReducesItsExponent(t *testing.T) {
	for _, g := range someGroupElements() {
		for _, n := range edgeExponents() {
			checkPower(t, g, n, expectedPower(g, reducedExponent(n)))
		}
		for _, n := range multiplesOfFieldSize() {
			checkPower(t, g, n, 1)
		}
	}
}

func TestPowersOfOne(t *testing.T) {
	for _, n := range edgeExponents() {
		checkPower(t, 1, n, 1)
	}
	for n := -2100; n <= 2100; n++ {
		checkPower(t, 1, n, 1)
	}
}

func TestPowersAreGroupElements(t *testing.T) {
	elements := groupElements()
	for _, g := range elements {
		for _, n := range edgeExponents() {
			if got := impl.PowGroup(g, n); !slices.Contains(elements, got) || !impl.IsGroupElement(got) {
				t.Errorf("PowGroup(%d, %d) = %d is not a group element", g, n, got)
			}
		}
	}
}

func TestExponentsAddUp(t *testing.T) {
	for _, g := range someGroupElements() {
		for n := -40; n <= 40; n++ {
			for m := 990; m <= 1050; m++ {
				checkProduct(t, impl.PowGroup(g, n), impl.PowGroup(g, m), impl.PowGroup(g, n+m))
			}
		}
		// The sum of two extreme exponents would wrap around, that of the reduced ones does not.
		for _, n := range edgeExponents() {
			for _, m := range edgeExponents() {
				sum := impl.PowGroup(g, reducedExponent(n)+reducedExponent(m))
				checkProduct(t, impl.PowGroup(g, n), impl.PowGroup(g, m), sum)
			}
		}
	}
}

func TestExponentsMultiply(t *testing.T) {
	for _, g := range someGroupElements() {
		for _, n := range edgeExponents() {
			for _, m := range edgeExponents() {
				checkPower(t, impl.PowGroup(g, n), m, impl.PowGroup(g, reducedExponent(n)*reducedExponent(m)))
			}
		}
	}
}

func TestPowGroupOfNonElements(t *testing.T) {
	exponents := append(edgeExponents(), 5, 6, 7)
	for _, g := range append(nonElements(), unitsOutsideTheGroup()...) {
		for _, n := range exponents {
			checkPower(t, g, n, 0)
		}
	}
}

func TestMulGroup(t *testing.T) {
	cases := []struct{ a, b, want int }{
		{64, 64, 18}, {4, 510, 1}, {510, 4, 1}, {4, 16, 64}, {1, 1, 1}, {1, 2032, 2032}, {2032, 1, 2032},
		{2032, 2032, 49}, {2032, 2028, 77}, {2, 1020, 1}, {5, 408, 1}, {1024, 2, 9},
	}
	for _, c := range cases {
		checkProduct(t, c.a, c.b, c.want)
	}
}

func TestProductsAreGroupElements(t *testing.T) {
	elements := groupElements()
	isElement := [modulusOfGroup]bool{}
	for _, x := range elements {
		isElement[x] = true
	}
	for _, a := range elements {
		for _, b := range elements {
			got := impl.MulGroup(a, b)
			if got != a*b%modulusOfGroup || !isElement[got] {
				t.Fatalf("MulGroup(%d, %d) = %d", a, b, got)
			}
		}
	}
}

func TestProductsInAnyOrder(t *testing.T) {
	some := someGroupElements()
	for _, a := range some {
		for _, b := range some {
			checkProduct(t, a, b, impl.MulGroup(b, a))
			for _, c := range some {
				checkProduct(t, impl.MulGroup(a, b), c, impl.MulGroup(a, impl.MulGroup(b, c)))
			}
		}
	}
}

func TestOneChangesNoProduct(t *testing.T) {
	for _, a := range groupElements() {
		checkProduct(t, a, 1, a)
		checkProduct(t, 1, a, a)
	}
}

func TestEveryElementHasOneInverse(t *testing.T) {
	elements := groupElements()
	for _, a := range elements {
		checkProduct(t, a, impl.PowGroup(a, -1), 1)
		checkProduct(t, impl.PowGroup(a, orderOfGroup-1), a, 1)
		inverses := 0
		for _, b := range elements {
			if impl.MulGroup(a, b) == 1 {
				inverses++
			}
		}
		if inverses != 1 {
			t.Errorf("%d has %d inverses", a, inverses)
		}
	}
}

func TestMulGroupOfNonElements(t *testing.T) {
	bad := append(nonElements(), unitsOutsideTheGroup()...)
	for _, x := range bad {
		for _, a := range someGroupElements() {
			checkProduct(t, x, a, 0)
			checkProduct(t, a, x, 0)
		}
		// The product of two units outside the group lies in the group.
		for _, y := range nonElements() {
			checkProduct(t, x, y, 0)
		}
	}
}

func TestInverseExponent(t *testing.T) {
	cases := []struct{ n, want int }{
		{1, 1}, {2, 510}, {3, 340}, {510, 2}, {340, 3}, {1018, 1018}, {1020, 1}, {1021, 510},
		{-1, 1018}, {-2, 509}, {-1018, 1}, {-1020, 1018}, {math.MinInt, 127}, {math.MaxInt, 612},
	}
	for _, c := range cases {
		if got := impl.InverseExponent(c.n); got != c.want {
			t.Errorf("InverseExponent(%d) = %d, want %d", c.n, got, c.want)
		}
	}
}

func TestInverseExponentOfMultiplesOfFieldSize(t *testing.T) {
	for _, n := range multiplesOfFieldSize() {
		if got := impl.InverseExponent(n); got != 0 {
			t.Errorf("InverseExponent(%d) = %d, want 0", n, got)
		}
	}
}

func checkInverseExponent(t *testing.T, n int) {
	t.Helper()
	reduced, m := reducedExponent(n), impl.InverseExponent(n)
	if reduced == 0 {
		if m != 0 {
			t.Errorf("InverseExponent(%d) = %d, want 0", n, m)
		}
		return
	}
	if m < 1 || m >= orderOfGroup || reduced*m%orderOfGroup != 1 {
		t.Errorf("InverseExponent(%d) = %d", n, m)
	}
	if back := impl.InverseExponent(m); back != reduced {
		t.Errorf("InverseExponent(%d) = %d, and the inverse of this is %d", n, m, back)
	}
}

func TestInverseExponentIsAnInverse(t *testing.T) {
	for n := -4 * orderOfGroup; n <= 4*orderOfGroup; n++ {
		checkInverseExponent(t, n)
	}
	for _, n := range edgeExponents() {
		checkInverseExponent(t, n)
	}
	for n := range 3000 {
		checkInverseExponent(t, math.MaxInt-n)
		checkInverseExponent(t, math.MinInt+n)
	}
}

func TestInverseExponentUndoesAPower(t *testing.T) {
	for _, g := range someGroupElements() {
		for n := 1; n < orderOfGroup; n++ {
			checkPower(t, impl.PowGroup(g, n), impl.InverseExponent(n), g)
		}
		for _, n := range edgeExponents() {
			want := g
			if reducedExponent(n) == 0 {
				want = 1
			}
			checkPower(t, impl.PowGroup(g, n), impl.InverseExponent(n), want)
		}
	}
}

// expectedHashToGroup follows the chapter with integers that cannot wrap around.
func expectedHashToGroup(label int, value int) int {
	h := big.NewInt(int64(expectedKeyedHash(label, 89, value)))
	square := reducedBig(h.Mul(h, h)).Int64()
	return expectedPower(4, 1+int(square%(orderOfGroup-1)))
}

func checkHashToGroup(t *testing.T, label int, value int, want int) {
	t.Helper()
	if got := impl.HashToGroup(label, value); got != want {
		t.Errorf("HashToGroup(%d, %d) = %d, want %d", label, value, got, want)
	}
}

func TestHashToGroup(t *testing.T) {
	cases := []struct{ label, value, want int }{
		{0, 0, 1600}, {1, 0, 668}, {0, 1, 484}, {101, 5, 25}, {5, 101, 1536}, {-1, -1, 186},
		{impl.Modulus, impl.Modulus, 1600},
		{math.MinInt, math.MinInt, 1421}, {math.MaxInt, math.MaxInt, 1681},
		{math.MinInt, math.MaxInt, 862}, {math.MaxInt, math.MinInt, 1798},
	}
	for _, c := range cases {
		checkHashToGroup(t, c.label, c.value, c.want)
	}
}

// With these values the exponent is the least and the greatest.
func TestHashToGroupAtTheEndsOfItsExponents(t *testing.T) {
	checkHashToGroup(t, 7, 97, 4)
	checkHashToGroup(t, 7, 60, 510)
}

func TestHashToGroupFollowsItsDefinition(t *testing.T) {
	for _, label := range hashedInts() {
		for _, value := range append(hashedInts(), 3, 4, 97, 101) {
			checkHashToGroup(t, label, value, expectedHashToGroup(label, value))
		}
	}
}

func TestHashToGroupGivesEveryElementButOne(t *testing.T) {
	elements := groupElements()
	seen := map[int]bool{}
	for value := range 20000 {
		got := impl.HashToGroup(7, value)
		if got == 1 || !slices.Contains(elements, got) {
			t.Fatalf("HashToGroup(7, %d) = %d", value, got)
		}
		seen[got] = true
	}
	if len(seen) != orderOfGroup-1 {
		t.Errorf("HashToGroup(7, value) gives %d elements for 20000 values", len(seen))
	}
}

func TestHashToGroupReducesModuloModulus(t *testing.T) {
	for _, n := range []int{impl.Modulus, -impl.Modulus, 1000 * impl.Modulus, -1000 * impl.Modulus} {
		checkHashToGroup(t, 101+n, 5-n, 25)
	}
}

// expectedProof follows the chapter with integers that cannot wrap around.
func expectedProof(g int, h int, secret int, nonce int) (int, int) {
	secret, nonce = reducedExponent(secret), reducedExponent(nonce)
	challenge := expectedKeyedHash(97, g, h, expectedPower(g, secret), expectedPower(h, secret), expectedPower(g, nonce), expectedPower(h, nonce)) % orderOfGroup
	return challenge, reducedExponent(nonce - challenge*secret)
}

func checkProof(t *testing.T, g int, h int, secret int, nonce int, wantChallenge int, wantResponse int) {
	t.Helper()
	challenge, response := impl.ProveEqual(g, h, secret, nonce)
	if challenge != wantChallenge || response != wantResponse {
		t.Errorf("ProveEqual(%d, %d, %d, %d) = %d, %d, want %d, %d", g, h, secret, nonce, challenge, response, wantChallenge, wantResponse)
	}
}

func checkVerified(t *testing.T, want bool, g int, h int, u int, v int, challenge int, response int) {
	t.Helper()
	if got := impl.VerifyEqual(g, h, u, v, challenge, response); got != want {
		t.Errorf("VerifyEqual(%d, %d, %d, %d, %d, %d) = %v", g, h, u, v, challenge, response, got)
	}
}

func TestProveEqual(t *testing.T) {
	cases := []struct{ g, h, secret, nonce, challenge, response int }{
		{4, 16, 7, 100, 148, 83}, {16, 4, 7, 100, 791, 677}, {4, 4, 7, 100, 643, 694},
		{4, 16, 0, 0, 337, 0}, {4, 16, 0, 5, 994, 5}, {4, 16, 5, 0, 330, 388},
		{1, 1, 7, 100, 674, 477}, {1, 4, 7, 100, 947, 604}, {4, 1, 7, 100, 370, 567},
		{4, 16, -1, -1, 361, 360}, {2032, 2, 1018, 1018, 774, 773},
		{4, 16, math.MinInt, math.MaxInt, 244, 992}, {4, 16, math.MaxInt, math.MinInt, 29, 968},
	}
	for _, c := range cases {
		checkProof(t, c.g, c.h, c.secret, c.nonce, c.challenge, c.response)
	}
}

func TestProveEqualFollowsItsDefinition(t *testing.T) {
	for _, g := range []int{1, 2, 4, 510, 2032} {
		for _, h := range []int{1, 3, 4, 16, 2028} {
			for _, secret := range edgeExponents() {
				for _, nonce := range []int{0, 1, 100, orderOfGroup - 1, orderOfGroup, -1, -orderOfGroup, math.MinInt, math.MaxInt} {
					challenge, response := expectedProof(g, h, secret, nonce)
					checkProof(t, g, h, secret, nonce, challenge, response)
				}
			}
		}
	}
}

func TestProveEqualReducesSecretAndNonce(t *testing.T) {
	const q = orderOfGroup
	for _, n := range []int{q, -q, 2 * q, -1000 * q, q * q, math.MaxInt/q*q - q, math.MinInt/q*q + q} {
		checkProof(t, 4, 16, 7+n, 100, 148, 83)
		checkProof(t, 4, 16, 7, 100+n, 148, 83)
		checkProof(t, 4, 16, 7+n, 100+n, 148, 83)
	}
}

func TestProveEqualOfNonElements(t *testing.T) {
	for _, x := range append(nonElements(), unitsOutsideTheGroup()...) {
		for _, g := range []int{1, 4, 2032} {
			for _, n := range []int{0, 7, -1, math.MinInt, math.MaxInt} {
				checkProof(t, x, g, n, 100, 0, 0)
				checkProof(t, g, x, 7, n, 0, 0)
			}
		}
		checkProof(t, x, x, 7, 100, 0, 0)
		checkProof(t, x, 0, 7, 100, 0, 0)
	}
}

func TestVerifyEqualAcceptsProofs(t *testing.T) {
	for _, g := range someGroupElements() {
		for _, h := range someGroupElements() {
			for _, secret := range edgeExponents() {
				u, v := impl.PowGroup(g, secret), impl.PowGroup(h, secret)
				for _, nonce := range []int{0, 1, 100, orderOfGroup - 1, orderOfGroup, -1, math.MinInt, math.MaxInt} {
					challenge, response := impl.ProveEqual(g, h, secret, nonce)
					checkVerified(t, true, g, h, u, v, challenge, response)
				}
			}
		}
	}
}

func TestVerifyEqualOfEverySecretAndNonce(t *testing.T) {
	for n := range orderOfGroup {
		challenge, response := impl.ProveEqual(4, 18, n, 100)
		checkVerified(t, true, 4, 18, impl.PowGroup(4, n), impl.PowGroup(18, n), challenge, response)
		challenge, response = impl.ProveEqual(4, 18, 7, n)
		checkVerified(t, true, 4, 18, impl.PowGroup(4, 7), impl.PowGroup(18, 7), challenge, response)
	}
}

// 148 and 83 are the proof of 4, 16, 72 and 1106 with the secret 7 and the nonce 100.
func TestVerifyEqualRejectsOtherProofs(t *testing.T) {
	checkVerified(t, true, 4, 16, 72, 1106, 148, 83)
	for n := range orderOfGroup {
		checkVerified(t, n == 83, 4, 16, 72, 1106, 148, n)
		// In so small a group one wrong challenge happens to fit.
		checkVerified(t, n == 148 || n == 433, 4, 16, 72, 1106, n, 83)
	}
	for _, x := range groupElements() {
		checkVerified(t, x == 4 || x == 426, x, 16, 72, 1106, 148, 83)
		checkVerified(t, x == 16 || x == 1390, 4, x, 72, 1106, 148, 83)
		checkVerified(t, x == 72 || x == 2004, 4, 16, x, 1106, 148, 83)
		checkVerified(t, x == 1106, 4, 16, 72, x, 148, 83)
	}
	checkVerified(t, false, 16, 4, 72, 1106, 148, 83)
	checkVerified(t, false, 4, 16, 1106, 72, 148, 83)
	checkVerified(t, false, 16, 4, 1106, 72, 148, 83)
	checkVerified(t, false, 4, 16, 72, 1106, 0, 0)
}

func TestVerifyEqualRejectsChallengesAndResponsesOutOfRange(t *testing.T) {
	const q = orderOfGroup
	for _, n := range append(multiplesOfFieldSize()[1:], 1-math.MaxInt, math.MaxInt-200, math.MinInt) {
		checkVerified(t, false, 4, 16, 72, 1106, 148, 83+n)
		checkVerified(t, false, 4, 16, 72, 1106, 148+n, 83)
		checkVerified(t, false, 4, 16, 72, 1106, 148+n, 83+n)
	}
	// The response 0, and the same power with a response of FieldSize.
	checkVerified(t, true, 4, 16, 1, 1, 337, 0)
	for _, response := range []int{q, -q, 2 * q, -1, q + 1, math.MinInt, math.MaxInt} {
		checkVerified(t, false, 4, 16, 1, 1, 337, response)
	}
	// Every response from 0 to FieldSize-1 is accepted for the elements 1, 1, 1 and 1.
	for response := -5; response <= q+5; response++ {
		checkVerified(t, 0 <= response && response < q, 1, 1, 1, 1, 674, response)
	}
	for challenge := -q; challenge <= 2*q; challenge++ {
		checkVerified(t, challenge == 674, 1, 1, 1, 1, challenge, 477)
	}
}

// proofWithChallenge looks for the nonce that makes the challenge of the secret 7 this one.
func proofWithChallenge(g int, h int, challenge int) (int, bool) {
	for nonce := range orderOfGroup {
		if c, response := impl.ProveEqual(g, h, 7, nonce); c == challenge {
			return response, true
		}
	}
	return 0, false
}

func TestVerifyEqualAtTheEndsOfTheChallenges(t *testing.T) {
	for _, challenge := range []int{0, orderOfGroup - 1} {
		found := 0
		for _, h := range someGroupElements() {
			if response, ok := proofWithChallenge(4, h, challenge); ok {
				found++
				u, v := impl.PowGroup(4, 7), impl.PowGroup(h, 7)
				checkVerified(t, true, 4, h, u, v, challenge, response)
				checkVerified(t, false, 4, h, u, v, challenge-orderOfGroup, response)
				checkVerified(t, false, 4, h, u, v, challenge+orderOfGroup, response)
			}
		}
		if found == 0 {
			t.Errorf("no proof has the challenge %d", challenge)
		}
	}
}

func TestVerifyEqualOfNonElements(t *testing.T) {
	bad := append(nonElements(), unitsOutsideTheGroup()...)
	for _, x := range append(bad, 4-modulusOfGroup, 16+modulusOfGroup, 72+modulusOfGroup, 1106+modulusOfGroup) {
		checkVerified(t, false, x, 16, 72, 1106, 148, 83)
		checkVerified(t, false, 4, x, 72, 1106, 148, 83)
		checkVerified(t, false, 4, 16, x, 1106, 148, 83)
		checkVerified(t, false, 4, 16, 72, x, 148, 83)
		checkVerified(t, false, x, x, x, x, 148, 83)
	}
}

// The power of a non-element is 0, and a challenge may well be the hash of that.
func TestVerifyEqualRejectsHashesOfTheFallback(t *testing.T) {
	for _, x := range append(nonElements(), 7) {
		for _, list := range [][4]int{{x, 4, 4, 4}, {4, x, 4, 4}, {4, 4, x, 4}, {4, 4, 4, x}, {x, x, x, x}} {
			g, h, u, v := list[0], list[1], list[2], list[3]
			for response := range 50 {
				for _, products := range [][2]int{{0, 0}, {0, 1}, {1, 0}} {
					challenge := expectedKeyedHash(97, g, h, u, v, products[0], products[1]) % orderOfGroup
					checkVerified(t, false, g, h, u, v, challenge, response)
				}
			}
		}
	}
}

func expectedSmallPower(base int, exponent int) int {
	power := new(big.Int).Exp(big.NewInt(int64(base)), big.NewInt(int64(exponent)), big.NewInt(modulusOfGroup))
	return int(power.Int64())
}

// expectedVerified is the equation of the chapter, without the ranges of the arguments.
func expectedVerified(g int, h int, u int, v int, challenge int, response int) bool {
	a := expectedSmallPower(g, response) * expectedSmallPower(u, challenge) % modulusOfGroup
	b := expectedSmallPower(h, response) * expectedSmallPower(v, challenge) % modulusOfGroup
	return challenge == expectedKeyedHash(97, g, h, u, v, a, b)%orderOfGroup
}

// fitsWithoutElements looks for a challenge and a response with which the equation holds, whatever the four integers are.
func fitsWithoutElements(list [4]int) (int, int, bool) {
	for response := range 20 {
		for challenge := range orderOfGroup {
			if expectedVerified(list[0], list[1], list[2], list[3], challenge, response) {
				return challenge, response, true
			}
		}
	}
	return 0, 0, false
}

func TestVerifyEqualRejectsUnitsThatFitTheEquation(t *testing.T) {
	for place := range 4 {
		found := 0
		for _, x := range []int{7, 11, modulusOfGroup - 1} {
			list := [4]int{4, 16, 72, 1106}
			list[place] = x
			if challenge, response, ok := fitsWithoutElements(list); ok {
				found++
				checkVerified(t, false, list[0], list[1], list[2], list[3], challenge, response)
			}
		}
		if found == 0 {
			t.Errorf("nothing fits with a non-element at index %d", place)
		}
	}
}

func TestVerifyEqualFollowsItsDefinition(t *testing.T) {
	elements := []int{1, 4, 18, 2032}
	for _, g := range elements {
		for _, h := range elements {
			for _, u := range elements {
				for _, v := range elements {
					for n := range 40 {
						challenge, response := (n*n*29+g*h)%orderOfGroup, (n*53+u*v)%orderOfGroup
						want := expectedVerified(g, h, u, v, challenge, response)
						checkVerified(t, want, g, h, u, v, challenge, response)
					}
				}
			}
		}
	}
}

func TestDifferentExponentsAreSeldomAccepted(t *testing.T) {
	accepted := 0
	for secret := range 100 {
		u, v := impl.PowGroup(4, secret), impl.PowGroup(16, secret+1)
		for nonce := range 100 {
			challenge, response := impl.ProveEqual(4, 16, secret, nonce)
			if impl.VerifyEqual(4, 16, u, v, challenge, response) {
				accepted++
			}
		}
	}
	// A guess fits once in FieldSize times.
	if accepted > 40 {
		t.Errorf("%d of 10000 proofs are accepted for other elements", accepted)
	}
}

func TestDiscreteLog(t *testing.T) {
	cases := []struct{ g, x, want int }{
		{4, 64, 3}, {4, 4, 1}, {4, 1, 0}, {4, 510, 1018}, {4, 530, 10}, {2, 9, 11}, {2032, 1165, 1018},
		{1, 4, -1}, {1, 1, -1}, {1, 2032, -1},
	}
	for _, c := range cases {
		checkLog(t, c.g, c.x, c.want)
	}
}

func TestDiscreteLogOfPowers(t *testing.T) {
	for _, g := range someGroupElements()[1:] {
		for n := range orderOfGroup {
			checkLog(t, g, impl.PowGroup(g, n), n)
		}
		for _, n := range edgeExponents() {
			checkLog(t, g, impl.PowGroup(g, n), reducedExponent(n))
		}
	}
}

func TestPowersOfDiscreteLogs(t *testing.T) {
	elements := groupElements()
	for _, g := range elements[1:] {
		for _, x := range someGroupElements() {
			n := impl.DiscreteLog(g, x)
			if n < 0 || n >= orderOfGroup || impl.PowGroup(g, n) != x {
				t.Errorf("DiscreteLog(%d, %d) = %d", g, x, n)
			}
		}
	}
	for _, x := range elements {
		if n := impl.DiscreteLog(4, x); n < 0 || n >= orderOfGroup || expectedSmallPower(4, n) != x {
			t.Errorf("DiscreteLog(4, %d) = %d", x, n)
		}
	}
}

func TestDiscreteLogWithOne(t *testing.T) {
	for _, x := range groupElements() {
		checkLog(t, 1, x, -1)
		if x != 1 {
			checkLog(t, x, 1, 0)
			checkLog(t, x, x, 1)
		}
	}
}

func TestDiscreteLogOfNonElements(t *testing.T) {
	for _, x := range append(nonElements(), unitsOutsideTheGroup()...) {
		for _, g := range someGroupElements() {
			checkLog(t, x, g, -1)
			checkLog(t, g, x, -1)
		}
		checkLog(t, x, x, -1)
		checkLog(t, x, 0, -1)
		checkLog(t, 0, x, -1)
		// A power of a non-element, though an exponent would fit.
		if x > 0 && x < modulusOfGroup {
			checkLog(t, x, x*x%modulusOfGroup, -1)
		}
	}
}

// anyInts has integers of every kind, for arguments in any place.
func anyInts() []int {
	return []int{math.MinInt, -orderOfGroup, -1, 0, 1, 4, 7, orderOfGroup, modulusOfGroup - 1, modulusOfGroup, 1 << 40, math.MaxInt}
}

func TestGroupFunctionsReturnForAllArguments(t *testing.T) {
	for _, a := range anyInts() {
		if n := impl.InverseExponent(a); n < 0 || n >= orderOfGroup {
			t.Errorf("InverseExponent(%d) = %d", a, n)
		}
		for _, b := range anyInts() {
			if x := impl.PowGroup(a, b); (x != 0) != impl.IsGroupElement(a) || x < 0 || x >= modulusOfGroup {
				t.Errorf("PowGroup(%d, %d) = %d", a, b, x)
			}
			if x := impl.MulGroup(a, b); (x != 0) != (impl.IsGroupElement(a) && impl.IsGroupElement(b)) || x < 0 || x >= modulusOfGroup {
				t.Errorf("MulGroup(%d, %d) = %d", a, b, x)
			}
			if x := impl.HashToGroup(a, b); x == 1 || !impl.IsGroupElement(x) {
				t.Errorf("HashToGroup(%d, %d) = %d", a, b, x)
			}
			if n := impl.DiscreteLog(a, b); (n >= 0) != (a != 1 && impl.IsGroupElement(a) && impl.IsGroupElement(b)) || n < -1 || n >= orderOfGroup {
				t.Errorf("DiscreteLog(%d, %d) = %d", a, b, n)
			}
		}
	}
}

func TestProofFunctionsReturnForAllArguments(t *testing.T) {
	for _, g := range anyInts() {
		for _, h := range anyInts() {
			for _, c := range anyInts() {
				for _, d := range anyInts() {
					challenge, response := impl.ProveEqual(g, h, c, d)
					if challenge < 0 || challenge >= orderOfGroup || response < 0 || response >= orderOfGroup {
						t.Errorf("ProveEqual(%d, %d, %d, %d) = %d, %d", g, h, c, d, challenge, response)
					}
					// Of these integers none is the challenge of the elements 1 and 4 among them.
					for _, e := range anyInts() {
						checkVerified(t, false, g, h, c, d, e, c)
						checkVerified(t, false, c, d, g, h, d, e)
					}
				}
			}
		}
	}
}
