package tests

import (
	"math"
	"math/big"
	"slices"
	"testing"

	"loop.example/g00581/impl"
)

const lastKey = impl.Modulus - 1

// keyPairs are private keys and their public keys.
func keyPairs() [][2]int {
	return [][2]int{
		{1, 48271}, {2, 96542}, {77, 3716867}, {78, 3765138}, {44488, 2147480248}, {44489, 44872}, {1000003, 1026504579},
		{1899818559, 1}, {lastKey - 1899818558, lastKey}, {lastKey - 1, 2147387105}, {lastKey, 2147435376},
	}
}

// someKeys has every small key, every great one and some in between, in ascending order.
func someKeys() []int {
	keys := []int{}
	for key := 1; key <= 2000; key++ {
		keys = append(keys, key)
	}
	for key := 100003; key < lastKey-2000; key += 1000003 {
		keys = append(keys, key)
	}
	for key := lastKey - 2000; key <= lastKey; key++ {
		keys = append(keys, key)
	}
	return keys
}

// notKeys are beyond the range of keys; some differ from a key by a multiple of Modulus.
func notKeys() []int {
	list := invalidKeys()
	for _, key := range []int{1, 77, 48271, 3716867, lastKey} {
		for _, multiple := range []int{-1 << 31, -2, -1, 1, 2, 1 << 31} {
			list = append(list, key+multiple*impl.Modulus)
		}
	}
	return list
}

func expectedPublic(private int) int {
	product := big.NewInt(int64(private))
	return int(reducedBig(product.Mul(product, big.NewInt(48271))).Int64())
}

// expectedPrivate divides by the factor of public keys, with integers that cannot wrap around.
func expectedPrivate(public int) int {
	quotient := new(big.Int).ModInverse(big.NewInt(48271), big.NewInt(impl.Modulus))
	return int(reducedBig(quotient.Mul(quotient, big.NewInt(int64(public)))).Int64())
}

func expectedSignature(private int, message []int) int {
	return expectedKeyedHash(private, slices.Concat([]int{139, len(message)}, message)...)
}

// signedMessages are different messages, also modulo Modulus, of which many are prefixes of others.
func signedMessages() [][]int {
	return [][]int{
		{}, {0}, {0, 0}, {0, 0, 0}, {0, 0, 0, 0, 0, 0, 0, 0}, {1}, {1, 0}, {1, 1}, {1, 1, 1}, {1, 0, 0}, {0, 1}, {0, 0, 1},
		{2}, {2, 0}, {2, 1}, {1, 2}, {1, 2, 2}, {1, 2, 3}, {1, 2, 0}, {2, 1, 2}, {3, 1, 2, 3}, {1, 2, 3, 3}, {1, 2, 3, 4}, {4, 3, 2, 1},
		{139}, {139, 0}, {0, 139}, {139, 1}, {139, 2, 1, 2}, {77}, {77, 77}, {1, 2, 77}, {77, 1, 2}, {151}, {149},
		{-1}, {-1, 0}, {-1, -1}, {-13}, {-13, -13}, {-14}, {math.MinInt}, {5, math.MaxInt}, {math.MinInt, math.MaxInt}, {math.MaxInt, math.MinInt},
		{impl.MaxValue}, {1 << 32, -1 << 32}, hashedInts(), slices.Repeat([]int{5}, 1000), slices.Repeat([]int{5}, 1001), make([]int, 1000),
	}
}

func isKey(n int) bool {
	return 1 <= n && n <= lastKey
}

func checkPublic(t *testing.T, private int, want int) {
	t.Helper()
	if got := impl.PublicKey(private); got != want {
		t.Errorf("PublicKey(%d) = %d, want %d", private, got, want)
	}
}

func checkPrivate(t *testing.T, public int, want int) {
	t.Helper()
	if got := impl.PrivateKey(public); got != want {
		t.Errorf("PrivateKey(%d) = %d, want %d", public, got, want)
	}
}

func checkSigned(t *testing.T, private int, message []int, want int) {
	t.Helper()
	if got := impl.SignMessage(private, message); got != want {
		t.Errorf("SignMessage(%d, %v) = %d, want %d", private, message, got, want)
	}
}

func checkAccepted(t *testing.T, want bool, public int, message []int, signature int) {
	t.Helper()
	if got := impl.VerifySignature(public, message, signature); got != want {
		t.Errorf("VerifySignature(%d, %v, %d) = %v", public, message, signature, got)
	}
}

func checkFingerprint(t *testing.T, public int, want int) {
	t.Helper()
	if got := impl.KeyFingerprint(public); got != want {
		t.Errorf("KeyFingerprint(%d) = %d, want %d", public, got, want)
	}
}

func checkDerived(t *testing.T, seed int, labels []int, want int) {
	t.Helper()
	if got := impl.DeriveKey(seed, labels); got != want {
		t.Errorf("DeriveKey(%d, %v) = %d, want %d", seed, labels, got, want)
	}
}

func TestKeyPairs(t *testing.T) {
	for _, pair := range keyPairs() {
		checkPublic(t, pair[0], pair[1])
		checkPrivate(t, pair[1], pair[0])
	}
}

func TestPublicKeyFollowsItsDefinition(t *testing.T) {
	for _, private := range someKeys() {
		checkPublic(t, private, expectedPublic(private))
		if public := impl.PublicKey(private); !isKey(public) {
			t.Errorf("PublicKey(%d) = %d", private, public)
		}
	}
}

func TestPublicKeyOfNoKey(t *testing.T) {
	for _, private := range notKeys() {
		checkPublic(t, private, 0)
	}
}

func TestPrivateKeyInvertsPublicKey(t *testing.T) {
	for _, private := range someKeys() {
		checkPrivate(t, impl.PublicKey(private), private)
	}
}

func TestPublicKeyInvertsPrivateKey(t *testing.T) {
	for _, public := range someKeys() {
		private := impl.PrivateKey(public)
		if !impl.IsValidKey(private) {
			t.Errorf("PrivateKey(%d) = %d is no valid key", public, private)
		}
		checkPublic(t, private, public)
		checkPrivate(t, public, expectedPrivate(public))
	}
}

func TestPrivateKeyOfNoPublicKey(t *testing.T) {
	for _, public := range notKeys() {
		checkPrivate(t, public, 0)
	}
	for _, pair := range keyPairs() {
		for _, multiple := range []int{-1 << 31, -2, -1, 1, 2, 1 << 31} {
			checkPrivate(t, pair[1]+multiple*impl.Modulus, 0)
		}
		checkPrivate(t, -pair[1], 0)
	}
}

func TestPublicKeysDiffer(t *testing.T) {
	seen := map[int]int{}
	for _, private := range someKeys() {
		public := impl.PublicKey(private)
		if earlier, ok := seen[public]; ok {
			t.Errorf("%d and %d have the public key %d", earlier, private, public)
		}
		seen[public] = private
	}
}

func TestSignMessage(t *testing.T) {
	checkSigned(t, 77, nil, 326627452)
	checkSigned(t, 77, []int{}, 326627452)
	checkSigned(t, 77, []int{0}, 1813244963)
	checkSigned(t, 77, []int{1, 2}, 1363736102)
	checkSigned(t, 77, []int{2, 1}, 641356606)
	checkSigned(t, 77, []int{1, 2, 0}, 1558100494)
	checkSigned(t, 1, []int{5}, 130248078)
	checkSigned(t, lastKey, []int{-1}, 1210081640)
	checkSigned(t, lastKey, []int{lastKey}, 1210081640)
	checkSigned(t, lastKey-1, []int{impl.Modulus}, 1753998433)
	checkSigned(t, 2, []int{math.MinInt, math.MaxInt}, 900786902)
	checkSigned(t, 1000003, nil, 572833576)
}

func TestSignMessageFollowsItsDefinition(t *testing.T) {
	for _, pair := range keyPairs() {
		for _, message := range signedMessages() {
			checkSigned(t, pair[0], message, expectedSignature(pair[0], message))
		}
	}
}

func TestSignMessageWithoutAKey(t *testing.T) {
	for _, private := range notKeys() {
		for _, message := range signedMessages() {
			checkSigned(t, private, message, 0)
		}
	}
	checkSigned(t, 0, nil, 0)
}

func TestVerifySignature(t *testing.T) {
	for _, pair := range keyPairs() {
		for _, message := range signedMessages() {
			checkAccepted(t, true, pair[1], message, expectedSignature(pair[0], message))
			checkAccepted(t, true, pair[1], slices.Clone(message), impl.SignMessage(pair[0], message))
		}
		checkAccepted(t, true, pair[1], nil, impl.SignMessage(pair[0], []int{}))
		checkAccepted(t, true, pair[1], []int{}, impl.SignMessage(pair[0], nil))
	}
}

func TestVerifySignatureOfAnotherMessage(t *testing.T) {
	for _, private := range []int{1, 77, lastKey} {
		public := impl.PublicKey(private)
		for i, signed := range signedMessages() {
			signature := impl.SignMessage(private, signed)
			for j, message := range signedMessages() {
				checkAccepted(t, i == j, public, message, signature)
			}
		}
	}
}

// The messages of each list begin with the ones before them.
func TestVerifySignatureOfPrefixes(t *testing.T) {
	for _, whole := range [][]int{make([]int, 20), slices.Repeat([]int{1}, 20), slices.Repeat([]int{-13}, 20), {0, 1, 2, 3, 4, 5, 6, 7}, {1, 2, 3, 4, 5, 6, 7, 8}, {8, 7, 6, 5, 4, 3, 2, 1}, hashedInts()} {
		for signed := range len(whole) + 1 {
			signature := impl.SignMessage(77, whole[:signed])
			for length := range len(whole) + 1 {
				checkAccepted(t, length == signed, 3716867, whole[:length], signature)
			}
		}
	}
}

// A message that is continued or preceded by 0, by a length or by a tag of the signature is another one.
func TestVerifySignatureOfContinuations(t *testing.T) {
	for _, message := range signedMessages() {
		n := len(message)
		signature := impl.SignMessage(77, message)
		for _, more := range [][]int{{0}, {n}, {n + 1}, {n - 1}, {139}, {77}, {-13}, {139, n}, {n, 77}, {n, n + 1}, {0, 0}} {
			for _, other := range [][]int{slices.Concat(message, more), slices.Concat(more, message)} {
				checkAccepted(t, false, 3716867, other, signature)
				checkAccepted(t, false, 3716867, message, impl.SignMessage(77, other))
			}
		}
	}
}

func TestVerifySignatureOfAChangedElement(t *testing.T) {
	for _, signed := range [][]int{{0}, {7}, {-7, 7}, {0, 0, 0}, {1, 2, 3, 4, 5}, {impl.Modulus, -impl.Modulus}, {math.MinInt, math.MaxInt}} {
		signature := impl.SignMessage(77, signed)
		for i, old := range signed {
			changed := slices.Clone(signed)
			for _, now := range append(hashedInts(), old+1, old-1, old+impl.Modulus, old-2*impl.Modulus, old+2*impl.Modulus+1) {
				changed[i] = now
				// A hash takes its values modulo Modulus.
				same := impl.Mod(old, impl.Modulus) == impl.Mod(now, impl.Modulus)
				checkAccepted(t, same, 3716867, changed, signature)
			}
		}
	}
}

func TestVerifySignatureWithAnotherKey(t *testing.T) {
	for _, message := range signedMessages() {
		for _, signer := range keyPairs() {
			signature := impl.SignMessage(signer[0], message)
			for _, other := range keyPairs() {
				checkAccepted(t, other == signer, other[1], message, signature)
			}
			checkAccepted(t, false, signer[0], message, signature)
		}
	}
}

func TestVerifySignatureWithManyKeys(t *testing.T) {
	signature := impl.SignMessage(77, []int{1, 2})
	for _, public := range append(someKeys(), 3716867) {
		checkAccepted(t, public == 3716867, public, []int{1, 2}, signature)
	}
}

func TestVerifySignatureOfAnotherSignature(t *testing.T) {
	const m = impl.Modulus
	for _, pair := range keyPairs() {
		for _, message := range signedMessages() {
			signature := expectedSignature(pair[0], message)
			for _, other := range []int{0, 1, -1, lastKey, m, m + 1, math.MinInt, math.MaxInt, 1 << 32, impl.MaxValue, -signature} {
				checkAccepted(t, other == signature, pair[1], message, other)
			}
			for _, difference := range []int{1, -1, 2, m, -m, 2 * m, 1 << 32, -1 << 32, math.MinInt} {
				checkAccepted(t, false, pair[1], message, signature+difference)
			}
		}
	}
}

func TestVerifySignatureTakesOneOfManySignatures(t *testing.T) {
	signature := impl.SignMessage(77, []int{1, 2})
	for other := signature - 50000; other <= signature+50000; other++ {
		checkAccepted(t, other == signature, 3716867, []int{1, 2}, other)
	}
	for other := -50000; other <= 50000; other++ {
		checkAccepted(t, false, 3716867, []int{1, 2}, other)
	}
}

// The other signatures are those of a key that a number beyond the range might be taken for.
func TestVerifySignatureWithoutAKey(t *testing.T) {
	for _, public := range notKeys() {
		for _, message := range signedMessages() {
			checkAccepted(t, false, public, message, 0)
			checkAccepted(t, false, public, message, expectedSignature(0, message))
			checkAccepted(t, false, public, message, expectedSignature(1, message))
			checkAccepted(t, false, public, message, expectedSignature(public, message))
			checkAccepted(t, false, public, message, expectedSignature(expectedPrivate(public), message))
			checkAccepted(t, false, public, message, impl.SignMessage(public, message))
		}
	}
}

func TestSignaturesThatAreZero(t *testing.T) {
	for _, message := range signedMessages() {
		private := keyOfHashZero(slices.Concat([]int{139, len(message)}, message))
		public := impl.PublicKey(private)
		checkSigned(t, private, message, 0)
		checkAccepted(t, true, public, message, 0)
		checkAccepted(t, false, public, message, impl.Modulus)
		checkAccepted(t, false, public, message, -impl.Modulus)
		checkAccepted(t, false, public, message, 1)
		checkAccepted(t, false, 0, message, 0)
		checkAccepted(t, false, public+impl.Modulus, message, 0)
		checkAccepted(t, false, impl.PublicKey(private-1), message, 0)
	}
}

func TestKeyFingerprint(t *testing.T) {
	checkFingerprint(t, 0, 884056)
	checkFingerprint(t, 1, 884059)
	checkFingerprint(t, 3716867, 841700)
	checkFingerprint(t, lastKey, 884053)
	checkFingerprint(t, impl.Modulus, 884056)
	checkFingerprint(t, -1, 884053)
	checkFingerprint(t, math.MinInt, 884050)
	checkFingerprint(t, math.MaxInt, 884059)
}

func TestKeyFingerprintFollowsItsDefinition(t *testing.T) {
	for _, public := range slices.Concat(someKeys(), notKeys(), hashedInts()) {
		checkFingerprint(t, public, expectedKeyedHash(149, public)%1000000)
		if got := impl.KeyFingerprint(public); got < 0 || got > 999999 {
			t.Errorf("KeyFingerprint(%d) = %d", public, got)
		}
	}
}

func TestDeriveKey(t *testing.T) {
	checkDerived(t, 5, []int{6}, 2006972570)
	checkDerived(t, 5, nil, 871832654)
	checkDerived(t, 5, []int{}, 871832654)
	checkDerived(t, 5, []int{0}, 2000972552)
	checkDerived(t, 0, nil, 183762820)
	checkDerived(t, -1, []int{1, 2}, 922920899)
	checkDerived(t, impl.Modulus, nil, 183762820)
	checkDerived(t, lastKey, []int{impl.Modulus}, 2146052921)
	checkDerived(t, math.MinInt, []int{math.MaxInt}, 1097491162)
	checkDerived(t, math.MaxInt, []int{math.MinInt}, 2095692792)
}

func TestDeriveKeyFollowsItsDefinition(t *testing.T) {
	for _, seed := range append(cipherKeys(), notKeys()...) {
		for _, labels := range signedMessages() {
			key := impl.DeriveKey(seed, labels)
			checkDerived(t, seed, labels, expectedKeyedHash(seed, slices.Concat([]int{151}, labels)...))
			if !impl.IsValidKey(key) {
				t.Errorf("DeriveKey(%d, %v) = %d is no valid key", seed, labels, key)
			}
			checkPrivate(t, impl.PublicKey(key), key)
		}
	}
}

func TestDeriveKeyIsNeverZero(t *testing.T) {
	for _, labels := range signedMessages() {
		values := slices.Concat([]int{151}, labels)
		seed := keyOfHashZero(values)
		for _, s := range []int{seed, seed - impl.Modulus, seed + impl.Modulus} {
			checkKeyedHash(t, 0, s, values...)
			checkDerived(t, s, labels, 1)
		}
		for _, s := range []int{seed - 1, seed + 1} {
			checkDerived(t, s, labels, expectedKeyedHash(s, values...))
		}
	}
}

func TestDeriveKeyDiffersForLabelsAndSeeds(t *testing.T) {
	seen := map[int]string{}
	for _, seed := range []int{5, 6, 77, lastKey} {
		for _, labels := range signedMessages() {
			key, source := impl.DeriveKey(seed, labels), impl.FormatInt(seed)+" and "+formatLabels(labels)
			if earlier, ok := seen[key]; ok {
				t.Errorf("%s give the key %d of %s", source, key, earlier)
			}
			seen[key] = source
		}
	}
}

func formatLabels(labels []int) string {
	text := ""
	for _, label := range labels {
		text += "," + impl.FormatInt(label)
	}
	return text
}

func TestSignatureFunctionsLeaveTheirArguments(t *testing.T) {
	for _, values := range [][]int{{}, {1}, {-1, impl.Modulus, math.MinInt}} {
		for _, key := range []int{5, lastKey, 0, -1, math.MaxInt} {
			list, array := withSpare(66, values...)
			before := slices.Clone(array)
			impl.SignMessage(key, list)
			impl.VerifySignature(key, list, 7)
			impl.VerifySignature(key, list, impl.SignMessage(impl.PrivateKey(key), list))
			impl.DeriveKey(key, list)
			if !slices.Equal(array, before) {
				t.Errorf("with the key %d, %v became %v", key, before, array)
			}
		}
	}
}

func TestSignatureFunctionsIgnoreSpareCapacity(t *testing.T) {
	list, array := withSpare(66, 1, 2)
	for _, filler := range []int{66, 0, -1} {
		for i := 2; i < len(array); i++ {
			array[i] = filler
		}
		checkSigned(t, 77, list, 1363736102)
		checkAccepted(t, true, 3716867, list, 1363736102)
		checkDerived(t, 5, list, expectedKeyedHash(5, 151, 1, 2))
	}
}

// Between the two calls with the same arguments there are others, of which nothing may be left.
func TestSignatureFunctionsKeepNoState(t *testing.T) {
	for _, a := range append(anyInts(), 77, 3716867) {
		message := []int{a, 2}
		public, private, signature := impl.PublicKey(a), impl.PrivateKey(a), impl.SignMessage(a, message)
		accepted, fingerprint, derived := impl.VerifySignature(public, message, signature), impl.KeyFingerprint(a), impl.DeriveKey(a, message)
		for _, b := range anyInts() {
			impl.PublicKey(b)
			impl.PrivateKey(b)
			impl.VerifySignature(impl.PublicKey(78), []int{b}, impl.SignMessage(b, []int{b}))
			impl.KeyFingerprint(b)
			impl.DeriveKey(b, []int{b})
		}
		checkPublic(t, a, public)
		checkPrivate(t, a, private)
		checkSigned(t, a, message, signature)
		checkAccepted(t, accepted, public, message, signature)
		checkFingerprint(t, a, fingerprint)
		checkDerived(t, a, message, derived)
	}
}

func TestSignatureFunctionsReturnForAllArguments(t *testing.T) {
	list := append(hashedInts(), anyInts()...)
	for _, a := range list {
		public, private := impl.PublicKey(a), impl.PrivateKey(a)
		if isKey(public) != isKey(a) || isKey(private) != isKey(a) {
			t.Errorf("PublicKey(%d) = %d and PrivateKey(%d) = %d", a, public, a, private)
		}
		for _, b := range list {
			message := []int{b, a}
			signature := impl.SignMessage(a, message)
			if signature < 0 || signature >= impl.Modulus {
				t.Errorf("SignMessage(%d, %v) = %d", a, message, signature)
			}
			checkAccepted(t, isKey(a), public, message, signature)
			checkAccepted(t, isKey(a) && b == expectedSignature(expectedPrivate(a), message), a, message, b)
			if key := impl.DeriveKey(a, message); !isKey(key) {
				t.Errorf("DeriveKey(%d, %v) = %d", a, message, key)
			}
		}
	}
}
