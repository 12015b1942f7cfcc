package tests

import (
	"math"
	"slices"
	"testing"

	"loop.example/g00581/impl"
)

// secretInput is a label of the keepers and an input of a client.
type secretInput struct {
	label int
	input int
}

// evaluatedInputs has labels and inputs that are negative, the least and the greatest integer.
func evaluatedInputs() []secretInput {
	return []secretInput{
		{5, 1234}, {1234, 5}, {0, 0}, {0, 1}, {1, 0}, {-1, -1}, {-7, 5}, {5, -1234}, {101, impl.MaxValue}, {impl.Modulus, -impl.Modulus},
		{math.MinInt, math.MinInt}, {math.MinInt, math.MaxInt}, {math.MaxInt, math.MinInt}, {math.MaxInt, math.MaxInt}, {5, math.MinInt}, {math.MaxInt, 5},
	}
}

// someBlindings are no multiples of FieldSize.
func someBlindings() []int {
	return slices.DeleteFunc(edgeExponents(), func(n int) bool {
		return reducedExponent(n) == 0
	})
}

// noIndices are outside the range of the indices of shares.
func noIndices() []int {
	return []int{0, -1, -2, -7, 8, 9, 100, fieldSize, fieldSize + 1, 1 - fieldSize, 1 << 32, 1<<32 + 1, math.MinInt, math.MaxInt}
}

func expectedBlinded(label int, input int, blinding int) int {
	return expectedPower(expectedHashToGroup(label, input), reducedExponent(blinding))
}

// expectedCombined multiplies powers by weights that are never reduced before they are exponents.
func expectedCombined(indices []int, evaluations []int) int {
	product := 1
	for i, evaluation := range evaluations {
		product = product * expectedPower(evaluation, expectedWeight(indices, i, 0)) % modulusOfGroup
	}
	return product
}

// expectedUnblinded looks for the element that the blinding turns into the given one.
func expectedUnblinded(combined int, blinding int) int {
	for _, x := range groupElements() {
		if expectedPower(x, reducedExponent(blinding)) == combined {
			return x
		}
	}
	return 0
}

func checkBlinded(t *testing.T, label int, input int, blinding int, want int) {
	t.Helper()
	if got := impl.BlindInput(label, input, blinding); got != want {
		t.Errorf("BlindInput(%d, %d, %d) = %d, want %d", label, input, blinding, got, want)
	}
}

func checkEvaluated(t *testing.T, s impl.Share, element int, want int) {
	t.Helper()
	if got := impl.EvaluateShare(s, element); got != want {
		t.Errorf("EvaluateShare(%v, %d) = %d, want %d", s, element, got, want)
	}
}

func checkCombined(t *testing.T, indices []int, evaluations []int, want int) {
	t.Helper()
	if got, ok := impl.CombineEvaluations(indices, evaluations); !ok || got != want {
		t.Errorf("CombineEvaluations(%v, %v) = %d, %v, want %d, true", indices, evaluations, got, ok, want)
	}
}

func checkNotCombined(t *testing.T, indices []int, evaluations []int) {
	t.Helper()
	if got, ok := impl.CombineEvaluations(indices, evaluations); ok || got != 0 {
		t.Errorf("CombineEvaluations(%v, %v) = %d, %v, want 0, false", indices, evaluations, got, ok)
	}
}

func checkFinished(t *testing.T, combined int, blinding int, want int) {
	t.Helper()
	if got := impl.FinishOutput(combined, blinding); got != want {
		t.Errorf("FinishOutput(%d, %d) = %d, want %d", combined, blinding, got, want)
	}
}

func checkOutputKey(t *testing.T, element int, label int, want int) {
	t.Helper()
	if got := impl.OutputKey(element, label); got != want {
		t.Errorf("OutputKey(%d, %d) = %d, want %d", element, label, got, want)
	}
}

func checkDirect(t *testing.T, secret int, label int, input int, want int) {
	t.Helper()
	if got := impl.DirectOutput(secret, label, input); got != want {
		t.Errorf("DirectOutput(%d, %d, %d) = %d, want %d", secret, label, input, got, want)
	}
}

func checkExplained(t *testing.T, element int, label int, input int, want int) {
	t.Helper()
	if got, ok := impl.ExplainBlinded(element, label, input); !ok || got != want {
		t.Errorf("ExplainBlinded(%d, %d, %d) = %d, %v, want %d, true", element, label, input, got, ok, want)
	}
}

func checkNotExplained(t *testing.T, element int, label int, input int) {
	t.Helper()
	if got, ok := impl.ExplainBlinded(element, label, input); ok || got != 0 {
		t.Errorf("ExplainBlinded(%d, %d, %d) = %d, %v, want 0, false", element, label, input, got, ok)
	}
}

// checkOutput lets the keepers of the shares evaluate a blinded input and expects the output of the secret.
func checkOutput(t *testing.T, quorum []impl.Share, secret int, of secretInput, blinding int) {
	t.Helper()
	blinded := impl.BlindInput(of.label, of.input, blinding)
	indices, evaluations := []int{}, []int{}
	for _, s := range quorum {
		indices = append(indices, s.Index)
		evaluations = append(evaluations, impl.EvaluateShare(s, blinded))
	}
	combined, ok := impl.CombineEvaluations(indices, evaluations)
	output, direct := impl.FinishOutput(combined, blinding), impl.DirectOutput(secret, of.label, of.input)
	if want := expectedBlinded(of.label, of.input, secret); !ok || output != want || direct != want {
		t.Errorf("%v with the blinding %d gives %d, %v to %v, and the secret %d gives %d, want %d", of, blinding, output, ok, quorum, secret, direct, want)
	}
}

func TestOutputOfAQuorum(t *testing.T) {
	list := impl.ShareSecret(100, []int{7}, 3)
	for _, size := range []int{2, 3} {
		for _, quorum := range arrangements(list, size) {
			for _, of := range evaluatedInputs() {
				for _, blinding := range someBlindings() {
					checkOutput(t, quorum, 100, of, blinding)
				}
			}
		}
	}
}

// Every list of at least as many shares as the polynomial has coefficients with its secret, in every order.
func TestOutputOfEveryQuorum(t *testing.T) {
	coefficients := []int{500, 0, 1018, 7}
	for degree := range len(coefficients) + 1 {
		list := impl.ShareSecret(77, coefficients[:degree], 5)
		for size := degree + 1; size <= 5; size++ {
			for _, quorum := range arrangements(list, size) {
				checkOutput(t, quorum, 77, secretInput{5, 1234}, 600)
			}
		}
	}
}

func TestOutputOfSevenKeepers(t *testing.T) {
	for _, coefficients := range someCoefficients() {
		list := impl.ShareSecret(600, coefficients, impl.MaxShares)
		for size := len(coefficients) + 1; size <= impl.MaxShares; size++ {
			for start := 0; start+size <= impl.MaxShares; start++ {
				quorum := slices.Clone(list[start : start+size])
				checkOutput(t, quorum, 600, secretInput{-7, math.MaxInt}, 9)
				slices.Reverse(quorum)
				checkOutput(t, quorum, 600, secretInput{math.MinInt, 5}, -9)
			}
		}
	}
}

func TestOutputWithEveryBlinding(t *testing.T) {
	list := impl.ShareSecret(100, []int{7, 8}, 4)
	for blinding := 1; blinding < fieldSize; blinding++ {
		checkOutput(t, list[1:], 100, secretInput{5, 1234}, blinding)
		checkOutput(t, list[:3], 100, secretInput{5, 1234}, blinding-fieldSize)
	}
}

func TestOutputOfEverySecret(t *testing.T) {
	secrets := edgeExponents()
	for secret := range fieldSize {
		secrets = append(secrets, secret)
	}
	for _, secret := range secrets {
		list := impl.ShareSecret(secret, []int{-4, 11}, 3)
		checkOutput(t, []impl.Share{list[2], list[0], list[1]}, secret, secretInput{5, 1234}, 9)
	}
}

// Shares of these polynomials have the values 0 and FieldSize-1, of which the first gives the evaluation 1.
func TestOutputOfSharesAtTheEnds(t *testing.T) {
	for _, list := range [][]impl.Share{
		impl.ShareSecret(1, []int{1018}, 4), impl.ShareSecret(3, []int{1018, 0}, 4), impl.ShareSecret(1017, []int{1}, 4), impl.ShareSecret(0, []int{0}, 3), impl.ShareSecret(1018, nil, 3),
		impl.ShareSecret(2, []int{1016, 1}, 3),
	} {
		secret, _ := impl.Interpolate(list, 0)
		for _, quorum := range arrangements(list, 3) {
			checkOutput(t, quorum, secret, secretInput{5, 1234}, 9)
		}
	}
}

func TestOutputOfASecretOfZero(t *testing.T) {
	for _, secret := range multiplesOfFieldSize() {
		list := impl.ShareSecret(secret, []int{700}, 3)
		for _, of := range evaluatedInputs() {
			checkOutput(t, list[:2], secret, of, 9)
			checkDirect(t, secret, of.label, of.input, 1)
		}
	}
}

// Any shares give the output of the secret that they interpolate to, so too few of them give that of another secret.
func TestOutputOfAnyShares(t *testing.T) {
	for _, list := range someShares() {
		for _, of := range evaluatedInputs() {
			checkOutput(t, list, expectedThrough(list, 0), of, 9)
		}
	}
	shares := impl.ShareSecret(100, []int{7, 8}, 3)
	combined, ok := impl.CombineEvaluations([]int{1, 2}, []int{impl.EvaluateShare(shares[0], 170), impl.EvaluateShare(shares[1], 170)})
	if output := impl.FinishOutput(combined, 9); !ok || output == impl.DirectOutput(100, 5, 1234) {
		t.Errorf("two shares give %d, %v, as three of them do", output, ok)
	}
}

func TestOutputOfRefreshedShares(t *testing.T) {
	list := impl.RefreshShares(impl.ShareSecret(100, []int{7}, 5), []int{900})
	for _, quorum := range arrangements(list, 2) {
		checkOutput(t, quorum, 100, secretInput{5, 1234}, 9)
	}
}

func TestBlindInput(t *testing.T) {
	cases := []struct{ label, input, blinding, want int }{
		{5, 1234, 9, 170}, {5, 1234, 1, 865}, {5, 1234, 1018, 2006}, {5, 1234, 1020, 865}, {5, 1234, -1, 2006}, {5, 1234, 1028, 170}, {5, 1234, -1010, 170},
		{0, 0, 2, 1055}, {-1, -1, 7, 86}, {math.MinInt, math.MaxInt, 3, 1014}, {math.MaxInt, math.MinInt, math.MaxInt, 1670}, {5, 99, math.MinInt, 1431},
		{5, 1234, 0, 0}, {5, 1234, 1019, 0}, {5, 1234, -1019, 0},
	}
	for _, c := range cases {
		checkBlinded(t, c.label, c.input, c.blinding, c.want)
	}
}

func TestBlindInputFollowsItsDefinition(t *testing.T) {
	for _, of := range evaluatedInputs() {
		for _, blinding := range append(someBlindings(), 9, 600) {
			checkBlinded(t, of.label, of.input, blinding, expectedBlinded(of.label, of.input, blinding))
		}
	}
}

func TestBlindInputWithoutABlinding(t *testing.T) {
	for _, of := range evaluatedInputs() {
		for _, blinding := range multiplesOfFieldSize() {
			checkBlinded(t, of.label, of.input, blinding, 0)
		}
	}
}

// Every input can become every element but 1, each by one blinding, so the element says nothing about the input.
func TestBlindInputHidesTheInput(t *testing.T) {
	elements := groupElements()
	for _, of := range evaluatedInputs() {
		seen := []int{}
		for blinding := range fieldSize {
			if blinding > 0 {
				seen = append(seen, impl.BlindInput(of.label, of.input, blinding))
			}
		}
		slices.Sort(seen)
		if !slices.Equal(seen, elements[1:]) {
			t.Errorf("the blindings do not turn %v into every element but 1", of)
		}
	}
}

func TestEvaluateShare(t *testing.T) {
	cases := []struct{ value, element, want int }{
		{107, 4, 1456}, {114, 16, 1077}, {1018, 4, 510}, {0, 4, 1}, {1, 4, 4}, {121, 1024, 739}, {5, 2, 32}, {1018, 2032, 1165},
		{107, 170, 546}, {114, 170, 1620}, {121, 170, 751},
		{107, 1, 0}, {0, 1, 0}, {1018, 1, 0}, {107, 0, 0}, {107, 7, 0}, {-1, 4, 0}, {1019, 4, 0}, {-1, 1, 0}, {1019, 7, 0},
	}
	for _, c := range cases {
		checkEvaluated(t, impl.Share{Index: 2, Value: c.value}, c.element, c.want)
	}
}

func TestEvaluateShareFollowsItsDefinition(t *testing.T) {
	for _, element := range groupElements()[1:] {
		for _, value := range []int{0, 1, 2, 9, 510, 1017, 1018} {
			checkEvaluated(t, impl.Share{Index: 3, Value: value}, element, expectedPower(element, value))
		}
	}
	for value := range fieldSize {
		checkEvaluated(t, impl.Share{Index: 1, Value: value}, 2032, expectedPower(2032, value))
	}
}

func TestEvaluateShareWithAnyIndex(t *testing.T) {
	for _, index := range append(noIndices(), 1, 2, 3, 4, 5, 6, 7) {
		checkEvaluated(t, impl.Share{Index: index, Value: 107}, 4, 1456)
		checkEvaluated(t, impl.Share{Index: index, Value: 0}, 4, 1)
		checkEvaluated(t, impl.Share{Index: index, Value: 1018}, 4, 510)
		checkEvaluated(t, impl.Share{Index: index, Value: 1019}, 4, 0)
		checkEvaluated(t, impl.Share{Index: index, Value: 107}, 1, 0)
	}
}

func TestEvaluateShareOfNoElement(t *testing.T) {
	for _, element := range slices.Concat(nonElements(), unitsOutsideTheGroup(), []int{1}) {
		for _, value := range []int{0, 1, 2, 107, 1018, -1, 1019} {
			checkEvaluated(t, impl.Share{Index: 2, Value: value}, element, 0)
		}
	}
}

func TestEvaluateShareOfNoValue(t *testing.T) {
	for _, element := range someGroupElements() {
		for _, value := range []int{-1, -2, -fieldSize, 1 - fieldSize, fieldSize, fieldSize + 1, 2 * fieldSize, 2*fieldSize - 1, 1 << 32, 1<<32 + 5, math.MinInt, math.MaxInt} {
			checkEvaluated(t, impl.Share{Index: 2, Value: value}, element, 0)
		}
	}
}

func TestCombineEvaluations(t *testing.T) {
	cases := []struct {
		indices     []int
		evaluations []int
		want        int
	}{
		{[]int{1}, []int{4}, 4}, {[]int{7}, []int{18}, 18}, {[]int{4}, []int{1}, 1}, {[]int{1, 2}, []int{4, 16}, 1}, {[]int{2, 1}, []int{4, 16}, 64},
		{[]int{1, 2}, []int{1, 1}, 1}, {[]int{1, 3}, []int{4, 1}, 8}, {[]int{1, 2, 3}, []int{4, 16, 64}, 1},
		{[]int{1, 3}, []int{546, 751}, 909}, {[]int{2, 1}, []int{1620, 546}, 909},
		{[]int{7, 1, 6, 2, 5, 3, 4}, []int{4, 16, 64, 18, 2, 3, 5}, 1027},
		{[]int{1, 2, 3, 4, 5, 6, 7}, []int{1, 1, 1, 1, 1, 1, 1}, 1}, {[]int{1, 2, 3, 4, 5, 6, 7}, []int{4, 4, 4, 4, 4, 4, 4}, 4},
	}
	for _, c := range cases {
		checkCombined(t, c.indices, c.evaluations, c.want)
	}
}

func TestCombineEvaluationsFollowsItsDefinition(t *testing.T) {
	elements := append(someGroupElements(), groupElements()[500:510]...)
	for size := 1; size <= impl.MaxShares; size++ {
		for i, indices := range arrangements([]int{6, 1, 3, 7, 2, 5, 4}, size) {
			// Of the many orders of six and seven indices, some are enough.
			if i%(1+size*size) == 0 {
				start := i % (len(elements) - size)
				evaluations := elements[start : start+size]
				checkCombined(t, indices, evaluations, expectedCombined(indices, evaluations))
			}
		}
	}
}

func TestCombineEvaluationsOfOneElement(t *testing.T) {
	for _, element := range groupElements() {
		for index := 1; index <= impl.MaxShares; index++ {
			checkCombined(t, []int{index}, []int{element}, element)
		}
	}
}

func TestCombineEvaluationsOfEveryPair(t *testing.T) {
	for a := -2; a <= 10; a++ {
		for b := -2; b <= 10; b++ {
			indices, evaluations := []int{a, b}, []int{4, 2032}
			if a == b || min(a, b) < 1 || max(a, b) > 7 {
				checkNotCombined(t, indices, evaluations)
				continue
			}
			checkCombined(t, indices, evaluations, expectedCombined(indices, evaluations))
		}
	}
}

func TestCombineEvaluationsOfDifferentLengths(t *testing.T) {
	indices, evaluations := []int{1, 2, 3, 4, 5, 6, 7, 8, 9}, slices.Repeat([]int{4}, 9)
	for a := range len(indices) + 1 {
		for b := range len(evaluations) + 1 {
			if a == b && 1 <= a && a <= 7 {
				checkCombined(t, indices[:a], evaluations[:b], 4)
			} else {
				checkNotCombined(t, indices[:a], evaluations[:b])
			}
		}
	}
}

func TestCombineEvaluationsOfNothing(t *testing.T) {
	checkNotCombined(t, nil, nil)
	checkNotCombined(t, []int{}, nil)
	checkNotCombined(t, nil, []int{})
	checkNotCombined(t, []int{}, []int{})
	checkNotCombined(t, []int{1}, nil)
	checkNotCombined(t, []int{1}, []int{})
	checkNotCombined(t, nil, []int{4})
	checkNotCombined(t, []int{}, []int{4})
	checkNotCombined(t, nil, []int{1})
}

// With seven indices, each pair of places holds an index that repeats.
func TestCombineEvaluationsOfRepeatedIndices(t *testing.T) {
	evaluations := []int{4, 16, 64, 18, 2, 3, 5}
	for size := 2; size <= impl.MaxShares; size++ {
		for i := range size {
			for j := range i {
				indices := []int{3, 1, 7, 2, 6, 5, 4}[:size]
				indices[i] = indices[j]
				checkNotCombined(t, indices, evaluations[:size])
				checkNotCombined(t, indices, slices.Repeat([]int{1}, size))
			}
		}
	}
}

func TestCombineEvaluationsOfIndicesBeyondTheRange(t *testing.T) {
	for _, index := range noIndices() {
		checkNotCombined(t, []int{index}, []int{4})
		for place := range impl.MaxShares {
			indices := []int{3, 1, 7, 2, 6, 5, 4}
			indices[place] = index
			checkNotCombined(t, indices, []int{4, 16, 64, 18, 2, 3, 5})
			checkNotCombined(t, indices, slices.Repeat([]int{1}, impl.MaxShares))
		}
	}
}

func TestCombineEvaluationsOfTooManyIndices(t *testing.T) {
	for _, size := range []int{8, 9, 100, 1019, 1020, 5000} {
		ascending, repeating := []int{}, []int{}
		for i := range size {
			ascending = append(ascending, i+1)
			repeating = append(repeating, i%7+1)
		}
		for _, evaluation := range []int{1, 4} {
			checkNotCombined(t, ascending, slices.Repeat([]int{evaluation}, size))
			checkNotCombined(t, repeating, slices.Repeat([]int{evaluation}, size))
			checkNotCombined(t, make([]int, size), slices.Repeat([]int{evaluation}, size))
		}
	}
}

func TestCombineEvaluationsOfNoElement(t *testing.T) {
	for _, bad := range append(nonElements(), unitsOutsideTheGroup()...) {
		for size := 1; size <= impl.MaxShares; size++ {
			for _, place := range []int{0, size / 2, size - 1} {
				evaluations := []int{4, 16, 64, 18, 2, 3, 1}[:size]
				evaluations[place] = bad
				checkNotCombined(t, []int{3, 1, 7, 2, 6, 5, 4}[:size], evaluations)
			}
		}
	}
	checkNotCombined(t, []int{1, 2}, []int{7, 11})
	checkNotCombined(t, []int{1, 2, 3}, []int{0, 0, 0})
	checkNotCombined(t, []int{1, 2}, []int{-4, -4})
}

func TestFinishOutput(t *testing.T) {
	cases := []struct{ combined, blinding, want int }{
		{4, 1, 4}, {4, 2, 2}, {4, 1018, 510}, {4, 9, 1334}, {1, 5, 1}, {2032, -3, 466}, {1024, 1020, 1024}, {4, math.MaxInt, 194}, {4, math.MinInt, 1663}, {909, 9, 1307},
		{4, 0, 0}, {4, 1019, 0}, {4, -1019, 0}, {1, 0, 0}, {1, 1019, 0}, {0, 5, 0}, {7, 5, 0}, {7, 0, 0}, {2038, 2, 0}, {2040, 5, 0},
	}
	for _, c := range cases {
		checkFinished(t, c.combined, c.blinding, c.want)
	}
}

func TestFinishOutputFollowsItsDefinition(t *testing.T) {
	for _, combined := range []int{1, 2, 4, 909, 2032} {
		for _, blinding := range []int{1, 2, 9, 510, 1017, 1018, 1020, -1, -1020, math.MinInt, math.MaxInt} {
			checkFinished(t, combined, blinding, expectedUnblinded(combined, blinding))
		}
	}
}

func TestFinishOutputTakesTheBlindingBack(t *testing.T) {
	for _, element := range groupElements() {
		for _, blinding := range append(someBlindings(), 9) {
			checkFinished(t, expectedPower(element, reducedExponent(blinding)), blinding, element)
		}
	}
	for _, of := range evaluatedInputs() {
		for blinding := 1; blinding < fieldSize; blinding++ {
			checkFinished(t, impl.BlindInput(of.label, of.input, blinding), blinding, impl.HashToGroup(of.label, of.input))
		}
	}
}

func TestFinishOutputWithoutABlinding(t *testing.T) {
	for _, combined := range append(groupElements(), nonElements()...) {
		for _, blinding := range multiplesOfFieldSize() {
			checkFinished(t, combined, blinding, 0)
		}
	}
}

func TestFinishOutputOfNoElement(t *testing.T) {
	for _, combined := range append(nonElements(), unitsOutsideTheGroup()...) {
		for _, blinding := range append(edgeExponents(), 9) {
			checkFinished(t, combined, blinding, 0)
		}
	}
}

func TestOutputKey(t *testing.T) {
	checkOutputKey(t, 4, 5, 923101141)
	checkOutputKey(t, 1, 0, 2064383134)
	checkOutputKey(t, 0, 0, 1014821372)
	checkOutputKey(t, 2038, -1, 1126979913)
	checkOutputKey(t, math.MinInt, math.MaxInt, 1064181498)
	checkOutputKey(t, math.MaxInt, math.MinInt, 2062383128)
	checkOutputKey(t, 100, -7, 737298848)
}

func TestOutputKeyFollowsItsDefinition(t *testing.T) {
	for _, element := range slices.Concat(groupElements(), nonElements(), hashedInts()) {
		for _, label := range hashedInts() {
			checkOutputKey(t, element, label, expectedKeyedHash(element, 157, label))
			if key := impl.OutputKey(element, label); !impl.IsValidKey(key) {
				t.Errorf("OutputKey(%d, %d) = %d is no valid key", element, label, key)
			}
		}
	}
}

func TestOutputKeyIsNeverZero(t *testing.T) {
	for _, label := range append(hashedInts(), 5, 1234) {
		element := keyOfHashZero([]int{157, label})
		for _, e := range []int{element, element - impl.Modulus, element + impl.Modulus} {
			checkKeyedHash(t, 0, e, 157, label)
			checkOutputKey(t, e, label, 1)
		}
		for _, e := range []int{element - 1, element + 1} {
			checkOutputKey(t, e, label, expectedKeyedHash(e, 157, label))
		}
	}
}

func TestOutputKeyDependsOnTheElement(t *testing.T) {
	for _, label := range []int{0, 5, -1, math.MinInt, math.MaxInt} {
		seen := map[int]int{}
		for _, element := range groupElements() {
			key := impl.OutputKey(element, label)
			if earlier, ok := seen[key]; ok {
				t.Errorf("with the label %d, %d and %d have the key %d", label, earlier, element, key)
			}
			seen[key] = element
		}
	}
}

func TestOutputKeyDependsOnTheLabel(t *testing.T) {
	for _, element := range someGroupElements() {
		seen := map[int]int{}
		for label := -1000; label <= 1000; label++ {
			key := impl.OutputKey(element, label)
			if earlier, ok := seen[key]; ok {
				t.Errorf("with the labels %d and %d, %d has the key %d", earlier, label, element, key)
			}
			seen[key] = label
		}
	}
}

func TestDirectOutput(t *testing.T) {
	cases := []struct{ secret, label, input, want int }{
		{100, 5, 1234, 1307}, {0, 5, 1234, 1}, {1, 5, 1234, 865}, {1018, 5, 1234, 2006}, {-1, 5, 1234, 2006}, {1019, 5, 1234, 1}, {1020, 5, 1234, 865},
		{math.MaxInt, 0, 0, 1275}, {math.MinInt, -1, -1, 1822},
	}
	for _, c := range cases {
		checkDirect(t, c.secret, c.label, c.input, c.want)
	}
}

func TestDirectOutputFollowsItsDefinition(t *testing.T) {
	for _, of := range evaluatedInputs() {
		for _, secret := range append(edgeExponents(), 9, 600) {
			checkDirect(t, secret, of.label, of.input, expectedBlinded(of.label, of.input, secret))
		}
	}
}

func TestExplainBlinded(t *testing.T) {
	cases := []struct{ element, label, input, want int }{
		{4, 5, 99, 603}, {170, 5, 1234, 9}, {170, 5, 99, 541}, {2, 5, 99, 811}, {2032, 0, 0, 83}, {1024, -1, math.MinInt, 778}, {18, math.MaxInt, -7, 706},
		{865, 5, 1234, 1}, {2006, 5, 1234, 1018},
	}
	for _, c := range cases {
		checkExplained(t, c.element, c.label, c.input, c.want)
	}
}

func TestExplainBlindedOfEveryElement(t *testing.T) {
	for _, of := range evaluatedInputs() {
		for _, element := range groupElements()[1:] {
			blinding, ok := impl.ExplainBlinded(element, of.label, of.input)
			if !ok || blinding < 1 || blinding > 1018 || expectedBlinded(of.label, of.input, blinding) != element {
				t.Errorf("ExplainBlinded(%d, %d, %d) = %d, %v", element, of.label, of.input, blinding, ok)
			}
			checkBlinded(t, of.label, of.input, blinding, element)
		}
	}
}

func TestExplainBlindedFindsTheBlinding(t *testing.T) {
	for _, of := range evaluatedInputs() {
		for _, blinding := range append(someBlindings(), 9, 600) {
			checkExplained(t, impl.BlindInput(of.label, of.input, blinding), of.label, of.input, reducedExponent(blinding))
		}
	}
}

func TestExplainBlindedOfNoElement(t *testing.T) {
	for _, of := range evaluatedInputs() {
		for _, element := range slices.Concat(nonElements(), unitsOutsideTheGroup(), []int{1}) {
			checkNotExplained(t, element, of.label, of.input)
		}
	}
}

func TestCombineEvaluationsLeavesItsArguments(t *testing.T) {
	for _, values := range [][2][]int{
		{{}, {}}, {{1}, {4}}, {{3, 1}, {4, 16}}, {{1, 2, 3, 4, 5, 6, 7}, {4, 4, 4, 4, 4, 4, 4}},
		{{1, 1}, {4, 16}}, {{0, 1}, {4, 16}}, {{1, 2}, {4, 7}}, {{1, 2}, {4}}, {{8}, {-1}},
	} {
		indices, indexArray := withSpare(66, values[0]...)
		evaluations, evaluationArray := withSpare(77, values[1]...)
		before, evaluationsBefore := slices.Clone(indexArray), slices.Clone(evaluationArray)
		impl.CombineEvaluations(indices, evaluations)
		if !slices.Equal(indexArray, before) || !slices.Equal(evaluationArray, evaluationsBefore) {
			t.Errorf("CombineEvaluations changed %v to %v and %v", values, indexArray, evaluationArray)
		}
	}
}

func TestCombineEvaluationsIgnoresSpareCapacity(t *testing.T) {
	for _, filler := range []int{0, 1, 2, 4, 7} {
		indices, _ := withSpare(filler, 1, 3)
		evaluations, _ := withSpare(filler, 546, 751)
		checkCombined(t, indices, evaluations, 909)
		checkNotCombined(t, indices, evaluations[:1])
		checkNotCombined(t, indices[:0], evaluations[:0])
	}
}

// One list may be both arguments.
func TestCombineEvaluationsOfASharedList(t *testing.T) {
	list := []int{1, 2, 3, 4, 5}
	checkCombined(t, list, list, expectedCombined(list, list))
	checkNotCombined(t, list[:3], list[1:])
	checkCombined(t, list[:4], list[1:], expectedCombined(list[:4], list[1:]))
}

// Between the two calls with the same arguments there are others, of which nothing may be left.
func TestObliviousFunctionsKeepNoState(t *testing.T) {
	share := impl.Share{Index: 2, Value: 107}
	for range 3 {
		checkBlinded(t, 5, 1234, 9, 170)
		checkEvaluated(t, share, 170, 546)
		checkCombined(t, []int{1, 3}, []int{546, 751}, 909)
		checkFinished(t, 909, 9, 1307)
		checkOutputKey(t, 4, 5, 923101141)
		checkDirect(t, 100, 5, 1234, 1307)
		checkExplained(t, 170, 5, 1234, 9)
		for _, n := range anyInts() {
			impl.BlindInput(n, n, n)
			impl.EvaluateShare(impl.Share{Index: n, Value: n}, n)
			impl.CombineEvaluations([]int{n, 1}, []int{4, n})
			impl.FinishOutput(n, n)
			impl.OutputKey(n, n)
			impl.DirectOutput(n, n, n)
			impl.ExplainBlinded(n, n, n)
		}
	}
}

func isElement(x int) bool {
	return 1 <= x && x < modulusOfGroup && expectedPower(x, orderOfGroup) == 1
}

func TestObliviousFunctionsReturnForAllArguments(t *testing.T) {
	for _, a := range anyInts() {
		for _, b := range anyInts() {
			if x := impl.FinishOutput(a, b); isElement(x) != (isElement(a) && reducedExponent(b) != 0) || x != 0 && !isElement(x) {
				t.Errorf("FinishOutput(%d, %d) = %d", a, b, x)
			}
			if key := impl.OutputKey(a, b); !isKey(key) {
				t.Errorf("OutputKey(%d, %d) = %d", a, b, key)
			}
			for _, c := range anyInts() {
				checkAnyEvaluation(t, a, b, c)
			}
		}
	}
}

func checkAnyEvaluation(t *testing.T, a int, b int, c int) {
	t.Helper()
	if x := impl.BlindInput(a, b, c); isElement(x) != (reducedExponent(c) != 0) || x == 1 || x != 0 && !isElement(x) {
		t.Errorf("BlindInput(%d, %d, %d) = %d", a, b, c, x)
	}
	if x := impl.EvaluateShare(impl.Share{Index: a, Value: b}, c); isElement(x) != (0 <= b && b < fieldSize && c != 1 && isElement(c)) || x != 0 && !isElement(x) {
		t.Errorf("EvaluateShare(%v, %d) = %d", impl.Share{Index: a, Value: b}, c, x)
	}
	indices, evaluations := []int{a, 3}, []int{b, c}
	if x, ok := impl.CombineEvaluations(indices, evaluations); ok != (1 <= a && a <= 7 && isElement(b) && isElement(c)) || isElement(x) != ok || !ok && x != 0 {
		t.Errorf("CombineEvaluations(%v, %v) = %d, %v", indices, evaluations, x, ok)
	}
	if x := impl.DirectOutput(a, b, c); !isElement(x) {
		t.Errorf("DirectOutput(%d, %d, %d) = %d", a, b, c, x)
	}
	if n, ok := impl.ExplainBlinded(a, b, c); ok != (a != 1 && isElement(a)) || (1 <= n && n < fieldSize) != ok || !ok && n != 0 {
		t.Errorf("ExplainBlinded(%d, %d, %d) = %d, %v", a, b, c, n, ok)
	}
}
