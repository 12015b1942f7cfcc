package tests

import (
	"math"
	"math/big"
	"slices"
	"testing"

	"loop.example/g00581/impl"
)

const fieldSize = impl.FieldSize

// sharesOf gives the values the indices 1, 2 and so on.
func sharesOf(values ...int) []impl.Share {
	list := []impl.Share{}
	for i, v := range values {
		list = append(list, impl.Share{Index: i + 1, Value: v})
	}
	return list
}

// expectedPolynomial adds up the powers without any reduction and reduces the sum at last.
func expectedPolynomial(constant int, coefficients []int, x int) int {
	sum, power := big.NewInt(int64(constant)), big.NewInt(1)
	for _, c := range coefficients {
		power.Mul(power, big.NewInt(int64(x)))
		sum.Add(sum, new(big.Int).Mul(big.NewInt(int64(c)), power))
	}
	return int(sum.Mod(sum, big.NewInt(fieldSize)).Int64())
}

// expectedQuotient is a/b in the field; b is not 0 there.
func expectedQuotient(a *big.Int, b *big.Int) int {
	inverse := new(big.Int).ModInverse(b, big.NewInt(fieldSize))
	inverse.Mul(inverse, a)
	return int(inverse.Mod(inverse, big.NewInt(fieldSize)).Int64())
}

func bigDifference(a int, b int) *big.Int {
	return new(big.Int).Sub(big.NewInt(int64(a)), big.NewInt(int64(b)))
}

// expectedThrough is Neville's scheme, which needs no weights.
func expectedThrough(points []impl.Share, at int) int {
	if len(points) == 1 {
		return reducedExponent(points[0].Value)
	}
	last := len(points) - 1
	first, second := expectedThrough(points[:last], at), expectedThrough(points[1:], at)
	a := bigDifference(at, points[last].Index)
	b := bigDifference(at, points[0].Index)
	a.Mul(a, big.NewInt(int64(first)))
	b.Mul(b, big.NewInt(int64(second)))
	return expectedQuotient(a.Sub(a, b), bigDifference(points[0].Index, points[last].Index))
}

// expectedWeight multiplies the differences without any reduction.
func expectedWeight(indices []int, k int, at int) int {
	numerator, denominator := big.NewInt(1), big.NewInt(1)
	for j, index := range indices {
		if j != k {
			numerator.Mul(numerator, bigDifference(at, index))
			denominator.Mul(denominator, bigDifference(indices[k], index))
		}
	}
	return expectedQuotient(numerator, denominator)
}

// arrangements are all lists of so many different elements, in every order.
func arrangements[T any](list []T, size int) [][]T {
	if size == 0 {
		return [][]T{{}}
	}
	all := [][]T{}
	for i, first := range list {
		for _, rest := range arrangements(slices.Delete(slices.Clone(list), i, i+1), size-1) {
			all = append(all, append([]T{first}, rest...))
		}
	}
	return all
}

// someCoefficients has a list of every length below MaxShares, and others that end with 0 or are not reduced.
func someCoefficients() [][]int {
	return [][]int{
		nil, {}, {0}, {3}, {1018}, {5, 1}, {0, 0}, {7, 0}, {1, 2, 3}, {1018, 1018, 1018}, {4, 0, 0, 900}, {9, 8, 7, 6, 5}, {1, 0, 0, 0, 0, 1}, {500, 400, 300, 200, 100, 50},
		{-1}, {fieldSize}, {fieldSize + 3, -fieldSize}, {math.MinInt}, {math.MaxInt}, {math.MaxInt, math.MinInt, -1, impl.MaxValue, 1 << 32, -fieldSize - 1},
	}
}

// areNotShares breaks every rule for a list of shares, next to its limits and far from them.
func areNotShares() [][]impl.Share {
	lists := [][]impl.Share{
		nil, {}, sharesOf(1, 2, 3, 4, 5, 6, 7, 8), append(sharesOf(1, 2, 3, 4, 5, 6, 7), impl.Share{Index: 1, Value: 1}), make([]impl.Share, 8), make([]impl.Share, 5000),
		{{Index: 1, Value: 5}, {Index: 1, Value: 5}}, {{Index: 1, Value: 5}, {Index: 1, Value: 6}}, {{Index: 7, Value: 5}, {Index: 7, Value: 5}},
		{{Index: 1, Value: 5}, {Index: 2, Value: 6}, {Index: 1, Value: 5}}, {{Index: 3, Value: 5}, {Index: 2, Value: 6}, {Index: 1, Value: 7}, {Index: 3, Value: 8}},
		{{Index: 1, Value: 5}, {Index: 2, Value: 6}, {Index: 2, Value: 7}}, {{Index: 7, Value: 1}, {Index: 1, Value: 2}, {Index: 6, Value: 3}, {Index: 2, Value: 4}, {Index: 5, Value: 5}, {Index: 3, Value: 6}, {Index: 7, Value: 7}},
	}
	for _, index := range []int{0, -1, -2, 8, 9, fieldSize, fieldSize + 1, 1 - fieldSize, 1 << 32, 1<<32 + 1, math.MinInt, math.MaxInt} {
		bad := impl.Share{Index: index, Value: 5}
		lists = append(lists, []impl.Share{bad}, append(sharesOf(1, 2), bad), append([]impl.Share{bad}, sharesOf(1, 2)...))
	}
	for _, value := range []int{-1, -2, -fieldSize, fieldSize, fieldSize + 1, 2 * fieldSize, 1 << 32, math.MinInt, math.MaxInt} {
		bad := impl.Share{Index: 4, Value: value}
		lists = append(lists, []impl.Share{bad}, append(sharesOf(1, 2), bad), append([]impl.Share{bad}, sharesOf(1, 2)...))
	}
	return lists
}

func checkSecretShares(t *testing.T, secret int, coefficients []int, count int, want []impl.Share) {
	t.Helper()
	if got := impl.ShareSecret(secret, coefficients, count); !slices.Equal(got, want) {
		t.Errorf("ShareSecret(%d, %v, %d) = %v, want %v", secret, coefficients, count, got, want)
	}
}

func checkWeight(t *testing.T, indices []int, k int, at int, want int) {
	t.Helper()
	if got := impl.LagrangeWeight(indices, k, at); got != want {
		t.Errorf("LagrangeWeight(%v, %d, %d) = %d, want %d", indices, k, at, got, want)
	}
}

func checkInterpolated(t *testing.T, list []impl.Share, at int, want int) {
	t.Helper()
	if got, ok := impl.Interpolate(list, at); !ok || got != want {
		t.Errorf("Interpolate(%v, %d) = %d, %v, want %d, true", list, at, got, ok, want)
	}
}

func checkRefreshed(t *testing.T, list []impl.Share, coefficients []int, want []impl.Share) {
	t.Helper()
	if got := impl.RefreshShares(list, coefficients); !slices.Equal(got, want) {
		t.Errorf("RefreshShares(%v, %v) = %v, want %v", list, coefficients, got, want)
	}
}

func checkMissing(t *testing.T, others []impl.Share, secret int, index int, value int) {
	t.Helper()
	if got, ok := impl.MissingShare(others, secret, index); !ok || got != (impl.Share{Index: index, Value: value}) {
		t.Errorf("MissingShare(%v, %d, %d) = %v, %v, want the value %d", others, secret, index, got, ok, value)
	}
}

func checkNotMissing(t *testing.T, others []impl.Share, secret int, index int) {
	t.Helper()
	if got, ok := impl.MissingShare(others, secret, index); ok || got != (impl.Share{}) {
		t.Errorf("MissingShare(%v, %d, %d) = %v, %v, want none", others, secret, index, got, ok)
	}
}

func TestMaxShares(t *testing.T) {
	if impl.MaxShares != 7 {
		t.Errorf("MaxShares is %d", impl.MaxShares)
	}
}

func TestShareSecret(t *testing.T) {
	cases := []struct {
		secret       int
		coefficients []int
		count        int
		want         []impl.Share
	}{
		{5, []int{3}, 4, sharesOf(8, 11, 14, 17)},
		{5, nil, 1, sharesOf(5)},
		{5, nil, 3, sharesOf(5, 5, 5)},
		{5, []int{}, 7, sharesOf(5, 5, 5, 5, 5, 5, 5)},
		{0, []int{0}, 2, sharesOf(0, 0)},
		{10, []int{2, 1}, 3, sharesOf(13, 18, 25)},
		{1018, []int{1}, 2, sharesOf(0, 1)},
		{0, []int{1018}, 3, sharesOf(1018, 1017, 1016)},
		{1, []int{1, 1, 1, 1, 1, 1}, 7, sharesOf(7, 127, 74, 366, 170, 961, 711)},
		{-1, []int{-1}, 2, sharesOf(1017, 1016)},
		{fieldSize, []int{fieldSize + 1}, 2, sharesOf(1, 2)},
		{math.MaxInt, nil, 1, sharesOf(reducedExponent(math.MaxInt))},
		{math.MinInt, nil, 1, sharesOf(reducedExponent(math.MinInt))},
	}
	for _, c := range cases {
		checkSecretShares(t, c.secret, c.coefficients, c.count, c.want)
	}
}

func TestShareSecretFollowsItsDefinition(t *testing.T) {
	for _, secret := range append(edgeExponents(), 5, 600) {
		for _, coefficients := range someCoefficients() {
			for count := len(coefficients) + 1; count <= impl.MaxShares; count++ {
				values := []int{}
				for x := 1; x <= count; x++ {
					values = append(values, expectedPolynomial(secret, coefficients, x))
				}
				checkSecretShares(t, secret, coefficients, count, sharesOf(values...))
			}
		}
	}
}

func TestShareSecretReducesEachCoefficient(t *testing.T) {
	for _, c := range edgeExponents() {
		for place := range impl.MaxShares - 1 {
			coefficients := []int{11, 12, 13, 14, 15, 16}
			coefficients[place] = c
			values := []int{}
			for x := 1; x <= impl.MaxShares; x++ {
				values = append(values, expectedPolynomial(c, coefficients, x))
			}
			checkSecretShares(t, c, coefficients, impl.MaxShares, sharesOf(values...))
			coefficients[place] = reducedExponent(c)
			checkSecretShares(t, reducedExponent(c), coefficients, impl.MaxShares, sharesOf(values...))
		}
	}
}

func TestShareSecretCounts(t *testing.T) {
	for degree := range 10 {
		coefficients := make([]int, degree)
		for count := -3; count <= 12; count++ {
			want := []impl.Share{}
			if count > degree && count <= impl.MaxShares {
				want = sharesOf(slices.Repeat([]int{9}, count)...)
			}
			checkSecretShares(t, 9, coefficients, count, want)
		}
		for _, count := range []int{math.MinInt, math.MaxInt, -fieldSize, fieldSize, fieldSize + 3, 1 << 32, 1<<32 + 3} {
			checkSecretShares(t, 9, coefficients, count, nil)
		}
	}
	checkSecretShares(t, 9, make([]int, 100000), impl.MaxShares, nil)
}

func TestAreShares(t *testing.T) {
	valid := [][]impl.Share{
		sharesOf(0), sharesOf(1018), sharesOf(5, 5), sharesOf(0, 0, 0, 0, 0, 0, 0), sharesOf(1, 2, 3, 4, 5, 6, 1018),
		{{Index: 7, Value: 0}}, {{Index: 7, Value: 1018}, {Index: 1, Value: 3}}, {{Index: 4, Value: 8}, {Index: 2, Value: 9}, {Index: 6, Value: 8}},
	}
	for _, list := range append(valid, arrangements(sharesOf(7, 6, 5, 4, 3, 2, 1), impl.MaxShares)...) {
		if !impl.AreShares(list) {
			t.Errorf("AreShares(%v) = false", list)
		}
	}
	for _, list := range areNotShares() {
		if impl.AreShares(list) {
			t.Errorf("AreShares(%v) = true", list)
		}
	}
}

func TestAreSharesOfEveryIndexAndValue(t *testing.T) {
	for index := -20; index <= 20; index++ {
		for value := -20; value <= 2*fieldSize; value++ {
			want := 1 <= index && index <= 7 && 0 <= value && value <= 1018
			if got := impl.AreShares([]impl.Share{{Index: index, Value: value}}); got != want {
				t.Errorf("AreShares of a share %d with the value %d = %v", index, value, got)
			}
		}
	}
}

// With seven shares, each pair of places holds an index that repeats.
func TestAreSharesOfRepeatedIndices(t *testing.T) {
	for i := range impl.MaxShares {
		for j := range i {
			list := sharesOf(10, 20, 30, 40, 50, 60, 70)
			list[i].Index = list[j].Index
			if impl.AreShares(list) {
				t.Errorf("AreShares(%v) = true", list)
			}
		}
	}
}

func TestSharesOfASecretAreShares(t *testing.T) {
	for _, coefficients := range someCoefficients() {
		for count := len(coefficients) + 1; count <= impl.MaxShares; count++ {
			for _, secret := range edgeExponents() {
				if list := impl.ShareSecret(secret, coefficients, count); !impl.AreShares(list) {
					t.Errorf("AreShares(%v) = false", list)
				}
			}
		}
	}
}

func TestLagrangeWeight(t *testing.T) {
	cases := []struct {
		indices []int
		k       int
		at      int
		want    int
	}{
		{[]int{1, 2}, 0, 0, 2}, {[]int{1, 2}, 1, 0, 1018}, {[]int{2, 1}, 0, 0, 1018}, {[]int{2, 1}, 1, 0, 2},
		{[]int{1, 2, 3}, 0, 0, 3}, {[]int{1, 2, 3}, 1, 0, 1016}, {[]int{1, 2, 3}, 2, 0, 1},
		{[]int{1, 3}, 0, 0, 511}, {[]int{1, 3}, 1, 0, 509}, {[]int{1, 2}, 0, 3, 1018}, {[]int{1, 2}, 1, 3, 2},
		{[]int{1, 2}, 0, 1, 1}, {[]int{1, 2}, 0, 2, 0}, {[]int{1, 2}, 1, 1, 0}, {[]int{1, 2}, 1, 2, 1},
		{[]int{0, 1}, 0, 5, 1015}, {[]int{0, 1}, 1, 5, 5}, {[]int{-1, 1}, 0, 0, 510}, {[]int{1018, 1020}, 0, 0, 510},
	}
	for _, c := range cases {
		checkWeight(t, c.indices, c.k, c.at, c.want)
	}
}

func TestLagrangeWeightOfOneElement(t *testing.T) {
	for _, index := range edgeExponents() {
		for _, at := range edgeExponents() {
			checkWeight(t, []int{index}, 0, at, 1)
		}
		for _, k := range []int{-1, 1, 2, index + 1, math.MinInt, math.MaxInt} {
			if k != 0 {
				checkWeight(t, []int{index}, k, 0, 0)
			}
		}
	}
}

// weightedLists have elements that differ modulo FieldSize; they need not be indices of shares.
func weightedLists() [][]int {
	return [][]int{
		{1, 2}, {7, 1}, {1, 2, 3}, {3, 1, 2}, {5, 2, 7, 1}, {1, 2, 3, 4, 5, 6, 7}, {7, 6, 5, 4, 3, 2, 1},
		{0, 1, 2}, {-1, -2, -3}, {fieldSize, 1, 2}, {fieldSize + 1, 2}, {8, 9, 10, 11, 12, 13, 14, 15, 16},
		{math.MinInt, math.MaxInt}, {math.MaxInt, 5, math.MinInt}, {math.MinInt, math.MinInt + 1, math.MaxInt, math.MaxInt - 1, 0}, {impl.MaxValue, -impl.MaxValue, 1 << 32},
	}
}

func TestLagrangeWeightFollowsItsDefinition(t *testing.T) {
	for _, indices := range weightedLists() {
		for _, at := range append(append(edgeExponents(), 5, 6, 7, 8), indices...) {
			for k := range indices {
				checkWeight(t, indices, k, at, expectedWeight(indices, k, at))
			}
		}
	}
}

func TestLagrangeWeightsAddUpToOne(t *testing.T) {
	for _, indices := range append(weightedLists(), []int{4}) {
		for _, at := range append(edgeExponents(), indices...) {
			sum := 0
			for k := range indices {
				weight := impl.LagrangeWeight(indices, k, at)
				if weight < 0 || weight >= fieldSize {
					t.Errorf("LagrangeWeight(%v, %d, %d) = %d", indices, k, at, weight)
				}
				sum += weight
			}
			if sum%fieldSize != 1 {
				t.Errorf("the weights of %v at %d add up to %d", indices, at, sum)
			}
		}
	}
}

func TestLagrangeWeightAtItsElements(t *testing.T) {
	for _, indices := range weightedLists() {
		for i, at := range indices {
			for k := range indices {
				want := 0
				if i == k {
					want = 1
				}
				checkWeight(t, indices, k, at, want)
				checkWeight(t, indices, k, reducedExponent(at), want)
				checkWeight(t, indices, k, reducedExponent(at)-fieldSize, want)
			}
		}
	}
}

func TestLagrangeWeightOfNoElement(t *testing.T) {
	for _, indices := range append(weightedLists(), nil, []int{}, []int{3}) {
		n := len(indices)
		for _, k := range []int{-1, -2, -n, -n - 1, n, n + 1, 2*n + 1, 1 << 32, math.MinInt, math.MaxInt} {
			if k != 0 || n == 0 {
				checkWeight(t, indices, k, 0, 0)
				checkWeight(t, indices, k, 5, 0)
			}
		}
	}
	checkWeight(t, nil, 0, 0, 0)
	checkWeight(t, []int{1, 2, 3}[:2], 2, 0, 0)
}

func TestLagrangeWeightOfEqualElements(t *testing.T) {
	lists := [][]int{
		{1, 1}, {0, 0}, {-1, -1}, {math.MinInt, math.MinInt}, {1, 1, 2}, {1, 2, 1}, {2, 1, 1}, {1, 2, 3, 4, 1}, {5, 1, 2, 3, 2, 6},
		{1, 1 + fieldSize}, {1 + fieldSize, 1}, {0, fieldSize}, {-fieldSize, 0}, {-1, 1018}, {3, 1, 3 - fieldSize}, {1, 2, 1 + 1000*fieldSize},
		{math.MaxInt, reducedExponent(math.MaxInt)}, {reducedExponent(math.MinInt), 5, math.MinInt}, {math.MinInt, math.MinInt + fieldSize},
	}
	for _, indices := range lists {
		for k := range indices {
			// At a point other than the elements no factor is 0.
			for _, at := range []int{0, 1, 2, 8, 600, -600, math.MinInt, math.MaxInt} {
				checkWeight(t, indices, k, at, 0)
			}
		}
	}
}

func TestLagrangeWeightOfLongLists(t *testing.T) {
	whole := []int{}
	for n := range fieldSize {
		whole = append(whole, n)
	}
	for _, k := range []int{0, 1, 500, fieldSize - 1} {
		checkWeight(t, whole, k, k, 1)
		checkWeight(t, whole, k, k+1, 0)
		checkWeight(t, whole, k, k-fieldSize, 1)
		checkWeight(t, whole[1:], k-1, 0, expectedWeightOfNone(k))
		checkWeight(t, append(slices.Clone(whole), fieldSize), k, k, 0)
		checkWeight(t, make([]int, 100000), k, 5, 0)
	}
}

// expectedWeightOfNone is the weight at 0 of k among 1 to FieldSize-1. There is no such element for the k 0.
func expectedWeightOfNone(k int) int {
	if k == 0 {
		return 0
	}
	indices := []int{}
	for n := 1; n < fieldSize; n++ {
		indices = append(indices, n)
	}
	return expectedWeight(indices, k-1, 0)
}

func TestInterpolate(t *testing.T) {
	cases := []struct {
		list []impl.Share
		at   int
		want int
	}{
		{sharesOf(8, 11), 0, 5}, {sharesOf(8, 11), 4, 17}, {sharesOf(8, 11), 1, 8}, {sharesOf(8, 11), 2, 11}, {sharesOf(8, 11), -2, 1018},
		{[]impl.Share{{Index: 4, Value: 17}, {Index: 2, Value: 11}}, 0, 5}, {[]impl.Share{{Index: 2, Value: 11}, {Index: 4, Value: 17}}, 0, 5},
		{sharesOf(13, 18, 25), 0, 10}, {sharesOf(13, 18, 25), 7, 73}, {sharesOf(8), 0, 8}, {[]impl.Share{{Index: 7, Value: 1018}}, 3, 1018},
		{sharesOf(0, 0, 0), 0, 0}, {sharesOf(1018, 1018), 0, 1018}, {sharesOf(5, 5, 5, 5, 5, 5, 5), 100, 5}, {sharesOf(1, 2), fieldSize, 0}, {sharesOf(1, 2), fieldSize + 5, 5},
	}
	for _, c := range cases {
		checkInterpolated(t, c.list, c.at, c.want)
	}
}

func TestAQuorumYieldsTheSecretAndTheOtherShares(t *testing.T) {
	for _, coefficients := range someCoefficients() {
		for _, secret := range []int{0, 5, 1018, -1, math.MinInt} {
			list := impl.ShareSecret(secret, coefficients, impl.MaxShares)
			for _, quorum := range arrangements(list, len(coefficients)+1) {
				checkInterpolated(t, quorum, 0, reducedExponent(secret))
				other := list[quorum[0].Index%impl.MaxShares]
				checkInterpolated(t, quorum, other.Index, other.Value)
			}
		}
	}
}

func TestAQuorumYieldsEveryShare(t *testing.T) {
	for _, coefficients := range someCoefficients() {
		list := impl.ShareSecret(77, coefficients, impl.MaxShares)
		for size := len(coefficients) + 1; size <= impl.MaxShares; size++ {
			for start := 0; start+size <= impl.MaxShares; start++ {
				quorum := list[start : start+size]
				checkInterpolated(t, quorum, 0, 77)
				for _, s := range list {
					checkInterpolated(t, quorum, s.Index, s.Value)
				}
			}
		}
	}
}

// someShares have values that belong to no polynomial of a lower degree.
func someShares() [][]impl.Share {
	return [][]impl.Share{
		sharesOf(0), sharesOf(1018), sharesOf(4, 900), sharesOf(1018, 0, 1018), sharesOf(3, 1, 4, 1, 5, 9, 2), sharesOf(1018, 1017, 1000, 0, 1018, 1, 1018),
		{{Index: 7, Value: 3}, {Index: 1, Value: 900}, {Index: 4, Value: 0}}, {{Index: 5, Value: 1}, {Index: 6, Value: 1000}, {Index: 2, Value: 1}, {Index: 3, Value: 7}},
	}
}

func TestInterpolateAtEveryPoint(t *testing.T) {
	for _, list := range someShares() {
		for at := -8; at <= 20; at++ {
			checkInterpolated(t, list, at, expectedThrough(list, at))
		}
		for _, at := range append(edgeExponents(), 5, 600) {
			checkInterpolated(t, list, at, expectedThrough(list, at))
		}
	}
}

func TestInterpolateAtTheIndexOfAShare(t *testing.T) {
	for _, list := range someShares() {
		for _, s := range list {
			for _, n := range multiplesOfFieldSize()[:8] {
				checkInterpolated(t, list, s.Index+n, s.Value)
			}
		}
	}
}

func TestInterpolateOfNoShares(t *testing.T) {
	for _, list := range areNotShares() {
		for _, at := range []int{0, 1, 4, 7, 8, -1, math.MinInt, math.MaxInt} {
			if got, ok := impl.Interpolate(list, at); ok || got != 0 {
				t.Errorf("Interpolate(%v, %d) = %d, %v, want 0, false", list, at, got, ok)
			}
		}
	}
}

func TestRefreshShares(t *testing.T) {
	cases := []struct {
		list         []impl.Share
		coefficients []int
		want         []impl.Share
	}{
		{sharesOf(8, 11, 14, 17), []int{10}, sharesOf(18, 31, 44, 57)},
		{sharesOf(8, 11), []int{10, 1}, sharesOf(19, 35)},
		{sharesOf(8, 11), nil, sharesOf(8, 11)},
		{sharesOf(8, 11), []int{}, sharesOf(8, 11)},
		{sharesOf(8, 11), []int{0, 0, 0}, sharesOf(8, 11)},
		{sharesOf(1018, 1018), []int{1}, sharesOf(0, 1)},
		{sharesOf(0, 1), []int{-1}, sharesOf(1018, 1018)},
		{sharesOf(5), []int{1, 1, 1, 1, 1, 1, 1, 1, 1, 1}, sharesOf(15)},
		{[]impl.Share{{Index: 7, Value: 3}, {Index: 2, Value: 5}}, []int{2, 3}, []impl.Share{{Index: 7, Value: 164}, {Index: 2, Value: 21}}},
	}
	for _, c := range cases {
		checkRefreshed(t, c.list, c.coefficients, c.want)
	}
}

func TestRefreshSharesFollowsItsDefinition(t *testing.T) {
	long := [][]int{make([]int, 50), slices.Repeat([]int{math.MaxInt, math.MinInt, 3}, 20), slices.Repeat([]int{1}, fieldSize+5)}
	for _, n := range edgeExponents() {
		long = append(long, []int{n}, []int{3, n, 4}, []int{n, n, n, n, n, n, n, n})
	}
	for _, list := range someShares() {
		for _, coefficients := range append(someCoefficients(), long...) {
			want := slices.Clone(list)
			for k := range want {
				want[k].Value = expectedPolynomial(list[k].Value, coefficients, list[k].Index)
			}
			checkRefreshed(t, list, coefficients, want)
		}
	}
}

func TestRefreshedSharesHaveTheSameSecret(t *testing.T) {
	for _, first := range someCoefficients() {
		for _, second := range someCoefficients() {
			list := impl.ShareSecret(600, first, impl.MaxShares)
			refreshed := impl.RefreshShares(list, second)
			if !impl.AreShares(refreshed) {
				t.Fatalf("AreShares(%v) = false", refreshed)
			}
			size := 1 + max(len(first), len(second))
			for start := 0; start+size <= impl.MaxShares; start++ {
				quorum := slices.Clone(refreshed[start : start+size])
				checkInterpolated(t, quorum, 0, 600)
				slices.Reverse(quorum)
				checkInterpolated(t, quorum, 0, 600)
			}
		}
	}
}

// Shares from before and after a renewal do not belong together.
func TestRefreshedSharesDoNotMixWithOldOnes(t *testing.T) {
	list := impl.ShareSecret(5, []int{3}, 4)
	refreshed := impl.RefreshShares(list, []int{10})
	checkInterpolated(t, []impl.Share{list[0], refreshed[1]}, 0, 1004)
	checkInterpolated(t, []impl.Share{refreshed[0], list[1]}, 0, 25)
}

func TestRefreshSharesOfNoShares(t *testing.T) {
	for _, list := range areNotShares() {
		for _, coefficients := range someCoefficients() {
			checkRefreshed(t, list, coefficients, nil)
		}
	}
}

func TestMissingShare(t *testing.T) {
	cases := []struct {
		others               []impl.Share
		secret, index, value int
	}{
		{sharesOf(8), 20, 2, 1015}, {sharesOf(8), 5, 2, 11}, {sharesOf(8), 8, 7, 8}, {sharesOf(8, 11), 5, 4, 17}, {sharesOf(13, 18), 10, 3, 25},
		{nil, 20, 1, 20}, {[]impl.Share{}, 0, 7, 0}, {nil, -1, 3, 1018}, {nil, fieldSize, 3, 0}, {nil, fieldSize + 4, 3, 4},
		{[]impl.Share{{Index: 7, Value: 0}}, 7, 1, 6}, {sharesOf(8), 20 - fieldSize, 2, 1015}, {sharesOf(8), 20 + 1000*fieldSize, 2, 1015},
	}
	for _, c := range cases {
		checkMissing(t, c.others, c.secret, c.index, c.value)
	}
}

func hasIndex(list []impl.Share, index int) bool {
	return slices.ContainsFunc(list, func(s impl.Share) bool { return s.Index == index })
}

func TestMissingShareFollowsItsDefinition(t *testing.T) {
	for _, others := range append(someShares(), nil, []impl.Share{}) {
		for index := -3; index <= 12; index++ {
			for _, secret := range append(edgeExponents(), 5, 600) {
				if index < 1 || index > impl.MaxShares || hasIndex(others, index) {
					checkNotMissing(t, others, secret, index)
					continue
				}
				points := append(slices.Clone(others), impl.Share{Index: 0, Value: secret})
				checkMissing(t, others, secret, index, expectedThrough(points, index))
			}
		}
	}
}

// With the shares of a polynomial of degree t and its secret, t others give the share of that polynomial.
func TestMissingShareCompletesAQuorum(t *testing.T) {
	for _, coefficients := range someCoefficients() {
		list := impl.ShareSecret(600, coefficients, impl.MaxShares)
		degree := len(coefficients)
		for start := 0; start+degree < impl.MaxShares; start++ {
			others := list[start : start+degree]
			for _, s := range list {
				if !hasIndex(others, s.Index) {
					checkMissing(t, others, 600, s.Index, s.Value)
				}
			}
		}
	}
}

// Each secret fits to the others with a share of its own: t shares reveal nothing about it.
func TestTooFewSharesFitToEverySecret(t *testing.T) {
	list := impl.ShareSecret(77, []int{500, 400, 300, 200, 100, 50}, impl.MaxShares)
	for size := range impl.MaxShares {
		others := list[:size]
		for _, index := range []int{size + 1, impl.MaxShares} {
			seen := [fieldSize]bool{}
			for secret := range fieldSize {
				missing, ok := impl.MissingShare(others, secret, index)
				if !ok || !impl.AreShares([]impl.Share{missing}) || missing.Index != index || seen[missing.Value] {
					t.Fatalf("MissingShare(%v, %d, %d) = %v, %v", others, secret, index, missing, ok)
				}
				seen[missing.Value] = true
				checkInterpolated(t, append(slices.Clone(others), missing), 0, secret)
				checkInterpolated(t, append([]impl.Share{missing}, others...), 0, secret)
			}
		}
	}
}

func TestMissingShareWithABadIndex(t *testing.T) {
	for _, others := range append(someShares(), nil, []impl.Share{}) {
		bad := []int{0, -1, -7, 8, 9, fieldSize, fieldSize + 1, 7 - fieldSize, 1<<32 + 1, math.MinInt, math.MaxInt}
		for _, s := range others {
			bad = append(bad, s.Index)
		}
		for _, index := range bad {
			for _, secret := range []int{0, 5, -1, fieldSize, math.MinInt, math.MaxInt} {
				checkNotMissing(t, others, secret, index)
			}
		}
	}
}

func TestMissingShareOfNoShares(t *testing.T) {
	for _, others := range areNotShares() {
		for index := -1; index <= 9 && len(others) > 0; index++ {
			for _, secret := range []int{0, 5, math.MaxInt} {
				checkNotMissing(t, others, secret, index)
			}
		}
	}
}

func TestShareFunctionsIgnoreSpareCapacity(t *testing.T) {
	list, _ := withSpare(impl.Share{Index: 1, Value: 5}, sharesOf(8, 11)...)
	coefficients, _ := withSpare(77, 10)
	checkInterpolated(t, list, 0, 5)
	checkRefreshed(t, list, coefficients, sharesOf(18, 31))
	checkMissing(t, list, 5, 4, 17)
	checkSecretShares(t, 5, coefficients, 2, sharesOf(15, 25))
	checkSecretShares(t, 5, coefficients, 1, nil)
	indices, _ := withSpare(1, 1, 2)
	checkWeight(t, indices, 0, 0, 2)
	checkWeight(t, indices, 2, 0, 0)
}

func TestShareSecretLeavesItsArgument(t *testing.T) {
	for _, values := range [][]int{{}, {3}, {-1, fieldSize, math.MinInt}} {
		for _, count := range []int{0, 1, 4, impl.MaxShares, impl.MaxShares + 1} {
			coefficients, array := withSpare(77, values...)
			before := slices.Clone(array)
			checkApart(t, "ShareSecret", impl.ShareSecret(5, coefficients, count), impl.Share{Index: 99}, array, before, 55)
		}
	}
}

func TestRefreshSharesLeavesItsArguments(t *testing.T) {
	for _, shares := range append(someShares(), areNotShares()...) {
		for _, values := range [][]int{{}, {3}, {-1, fieldSize, math.MinInt}} {
			list, array := withSpare(impl.Share{Index: 77}, shares...)
			coefficients, coefficientArray := withSpare(77, values...)
			before, coefficientsBefore := slices.Clone(array), slices.Clone(coefficientArray)
			refreshed := impl.RefreshShares(list, coefficients)
			checkApart(t, "RefreshShares", refreshed, impl.Share{Index: 99}, coefficientArray, coefficientsBefore, 55)
			checkApart(t, "RefreshShares", refreshed, impl.Share{Index: 98}, array, before, impl.Share{Index: 55})
		}
	}
}

func TestOtherShareFunctionsLeaveTheirArguments(t *testing.T) {
	for _, shares := range append(someShares(), areNotShares()...) {
		list, array := withSpare(impl.Share{Index: 77}, shares...)
		before := slices.Clone(array)
		impl.AreShares(list)
		for _, n := range []int{0, 3, 5, -1, math.MaxInt} {
			impl.Interpolate(list, n)
			impl.MissingShare(list, n, 3)
			impl.MissingShare(list, 600, n)
		}
		if !slices.Equal(array, before) {
			t.Errorf("the shares %v were changed to %v", shares, array)
		}
	}
	for _, values := range append(weightedLists(), []int{1, 1}, []int{}) {
		indices, array := withSpare(77, values...)
		before := slices.Clone(array)
		for k := -1; k <= len(indices); k++ {
			impl.LagrangeWeight(indices, k, 5)
		}
		if !slices.Equal(array, before) {
			t.Errorf("LagrangeWeight changed its argument to %v", array)
		}
	}
}

func TestResultsOfTwoShareCallsAreApart(t *testing.T) {
	first, second := impl.ShareSecret(5, []int{3}, 4), impl.ShareSecret(5, []int{3}, 4)
	clear(first)
	refreshed, again := impl.RefreshShares(second, nil), impl.RefreshShares(second, nil)
	clear(refreshed)
	for _, list := range [][]impl.Share{second, again} {
		if !slices.Equal(list, sharesOf(8, 11, 14, 17)) {
			t.Errorf("two results share memory: %v", list)
		}
	}
}

// shareInts has integers of every kind, for arguments in any place.
func shareInts() []int {
	return []int{math.MinInt, -fieldSize, -1, 0, 1, 2, 7, 8, fieldSize - 1, fieldSize, 1 << 40, math.MaxInt}
}

func TestShareFunctionsReturnForAllArguments(t *testing.T) {
	for _, a := range shareInts() {
		for _, b := range shareInts() {
			for _, c := range shareInts() {
				if list := impl.ShareSecret(a, []int{b, a}, c); len(list) > 0 != (c == 7) || len(list) > 0 && !impl.AreShares(list) {
					t.Errorf("ShareSecret(%d, %v, %d) = %v", a, []int{b, a}, c, list)
				}
				if weight := impl.LagrangeWeight([]int{a, b}, 0, c); weight < 0 || weight >= fieldSize {
					t.Errorf("LagrangeWeight(%v, 0, %d) = %d", []int{a, b}, c, weight)
				}
				checkWeight(t, []int{1, 2}, a, b, weightOfOneOrTwo(a, b))
				list := []impl.Share{{Index: a, Value: b}, {Index: 3, Value: 4}}
				checkAnyShares(t, list, c)
			}
		}
	}
}

// weightOfOneOrTwo is the weight among the elements 1 and 2.
func weightOfOneOrTwo(k int, at int) int {
	if k != 0 && k != 1 {
		return 0
	}
	return expectedWeight([]int{1, 2}, k, at)
}

// checkAnyShares uses n in the place of every other argument.
func checkAnyShares(t *testing.T, list []impl.Share, n int) {
	t.Helper()
	valid := impl.AreShares(list)
	if value, ok := impl.Interpolate(list, n); ok != valid || value < 0 || value >= fieldSize {
		t.Errorf("Interpolate(%v, %d) = %d, %v", list, n, value, ok)
	}
	if refreshed := impl.RefreshShares(list, []int{n, n}); impl.AreShares(refreshed) != valid || (len(refreshed) == len(list)) != valid {
		t.Errorf("RefreshShares(%v, %v) = %v", list, []int{n, n}, refreshed)
	}
	for _, index := range []int{5, n} {
		possible := valid && 1 <= index && index <= 7 && !hasIndex(list, index)
		if missing, ok := impl.MissingShare(list, n, index); ok != possible || impl.AreShares([]impl.Share{missing}) != possible {
			t.Errorf("MissingShare(%v, %d, %d) = %v, %v", list, n, index, missing, ok)
		}
	}
}
