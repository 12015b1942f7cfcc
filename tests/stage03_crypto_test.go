package tests

import (
	"bytes"
	"math"
	"math/big"
	"slices"
	"strings"
	"testing"

	"loop.example/g00581/impl"
)

// reducedBig is n modulo Modulus, never negative.
func reducedBig(n *big.Int) *big.Int {
	return new(big.Int).Mod(n, big.NewInt(impl.Modulus))
}

// expectedHash follows the chapter with integers that cannot wrap around.
func expectedHash(values ...int) int {
	accumulator := big.NewInt(11)
	for _, v := range values {
		accumulator.Mul(accumulator, big.NewInt(1000003))
		accumulator.Add(accumulator, reducedBig(big.NewInt(int64(v))))
		accumulator = reducedBig(accumulator.Add(accumulator, big.NewInt(13)))
	}
	return int(accumulator.Int64())
}

func expectedKeyedHash(key int, values ...int) int {
	return expectedHash(slices.Concat([]int{key}, values, []int{key})...)
}

// hashedInts are values that are small, negative, extreme, or around multiples of Modulus.
func hashedInts() []int {
	const m = impl.Modulus
	return []int{
		0, 1, 2, 5, 255, 1000003, -1, -2, -5, -13, -14, -1000003, -11000046,
		m - 1, m, m + 1, 2*m - 1, 2 * m, 2*m + 1, -m + 1, -m, -m - 1, -2 * m, m * m, -m * m,
		impl.MaxValue, -impl.MaxValue, 1 << 31, 1 << 32, -1 << 31, -1 << 32,
		math.MaxInt, math.MaxInt - 1, math.MinInt, math.MinInt + 1,
	}
}

func invalidKeys() []int {
	const m = impl.Modulus
	return []int{0, -1, -2, -m + 1, -m, -m - 1, math.MinInt, m, m + 1, 2 * m, impl.MaxValue, 1 << 32, math.MaxInt}
}

func cipherKeys() []int {
	return append([]int{1, 2, 77, 78, 1000003, impl.Modulus - 2, impl.Modulus - 1}, invalidKeys()...)
}

func patternBytes(length int) []byte {
	b := make([]byte, length)
	for i := range b {
		b[i] = byte(i*i*5 + i*3 + length)
	}
	return b
}

func allBytes() []byte {
	b := make([]byte, 256)
	for i := range b {
		b[i] = byte(i)
	}
	return b
}

func cipherTexts() [][]byte {
	return [][]byte{
		nil, {}, {0}, {1}, {127}, {128}, {255}, {0, 0, 0, 0}, {255, 255, 255, 255}, []byte("hello"),
		allBytes(), patternBytes(255), patternBytes(257), patternBytes(1000), patternBytes(70000),
	}
}

func checkHash(t *testing.T, want int, values ...int) {
	t.Helper()
	if got := impl.Hash(values); got != want {
		t.Errorf("Hash(%v) = %d, want %d", values, got, want)
	}
}

func checkKeyedHash(t *testing.T, want int, key int, values ...int) {
	t.Helper()
	if got := impl.KeyedHash(key, values); got != want {
		t.Errorf("KeyedHash(%d, %v) = %d, want %d", key, values, got, want)
	}
}

func TestModulus(t *testing.T) {
	if impl.Modulus != 2147483647 {
		t.Errorf("Modulus is %d", impl.Modulus)
	}
}

func TestHash(t *testing.T) {
	if got := impl.Hash(nil); got != 11 {
		t.Errorf("Hash(nil) = %d, want 11", got)
	}
	if got := impl.Hash([]int{}); got != 11 {
		t.Errorf("Hash([]) = %d, want 11", got)
	}
	checkHash(t, 11000051, 5)
	checkHash(t, 11000046, 0)
	checkHash(t, 667760217, 0, 0)
	checkHash(t, 668760222, 1, 2)
	checkHash(t, 669760224, 2, 1)
	checkHash(t, 1431104191, impl.MaxValue)
	checkHash(t, 753141856, impl.Modulus-1, impl.Modulus-1, impl.Modulus-1)
}

func TestHashOfNegativeAndExtremeValues(t *testing.T) {
	checkHash(t, 11000045, -1)
	checkHash(t, 11000045, impl.Modulus-1)
	checkHash(t, 1499176197, -5, 7, -9)
	checkHash(t, 1499176197, impl.Modulus-5, 7, impl.Modulus-9)
	checkHash(t, 11000044, math.MinInt)
	checkHash(t, 11000047, math.MaxInt)
}

func TestHashOfMultiplesOfModulus(t *testing.T) {
	const m = impl.Modulus
	for _, n := range []int{m, -m, 2 * m, -2 * m, 1000 * m, -1000 * m, m * m, -m * m} {
		checkHash(t, 11000046, n)
		checkHash(t, 667760217, n, n)
		checkHash(t, 11000051, 5+n)
		checkHash(t, 668760222, 1+n, 2-n)
	}
}

func TestHashAtTheEndsOfItsRange(t *testing.T) {
	const before = 11*1000003 + 13
	checkHash(t, 0, -before)
	checkHash(t, 0, impl.Modulus-before)
	checkHash(t, impl.Modulus-1, impl.Modulus-1-before)
	checkHash(t, 13, -before, 0)
	checkHash(t, 12, -before, -1)
	// The greatest accumulator and the greatest reduced value together.
	checkHash(t, impl.Modulus-1000003-1+13, impl.Modulus-1-before, -1)
}

func TestHashFollowsItsDefinition(t *testing.T) {
	values := hashedInts()
	for i, first := range values {
		checkHash(t, expectedHash(first), first)
		for _, second := range values {
			checkHash(t, expectedHash(first, second), first, second)
			checkHash(t, expectedHash(second, 3, first), second, 3, first)
		}
		checkHash(t, expectedHash(values[:i]...), values[:i]...)
	}
	long := slices.Repeat(values, 30)
	checkHash(t, expectedHash(long...), long...)
}

func TestHashIsInItsRange(t *testing.T) {
	for _, first := range hashedInts() {
		for _, second := range hashedInts() {
			list := []int{first, second}
			if got := impl.Hash(list); got < 0 || got >= impl.Modulus {
				t.Errorf("Hash(%v) = %d", list, got)
			}
			if got := impl.KeyedHash(first, list); got < 0 || got >= impl.Modulus {
				t.Errorf("KeyedHash(%d, %v) = %d", first, list, got)
			}
		}
	}
}

func TestKeyedHash(t *testing.T) {
	checkKeyedHash(t, 20107550, 3, 4)
	checkKeyedHash(t, 668760221, 1)
	checkKeyedHash(t, 321116305, 77, 0)
	checkKeyedHash(t, 322116308, 77, 1)
	checkKeyedHash(t, 749141844, impl.Modulus-1, -5)
	if got, want := impl.KeyedHash(1, nil), impl.KeyedHash(1, []int{}); got != want || got != impl.Hash([]int{1, 1}) {
		t.Errorf("KeyedHash(1, nil) = %d, KeyedHash(1, []) = %d", got, want)
	}
}

func TestKeyedHashWithInvalidKeys(t *testing.T) {
	checkKeyedHash(t, 667760217, 0)
	checkKeyedHash(t, 759141874, -1, 5)
	checkKeyedHash(t, 37762382, impl.Modulus, 5)
	checkKeyedHash(t, 1946887594, math.MinInt, math.MinInt, math.MaxInt)
	checkKeyedHash(t, 1458866522, math.MaxInt, 0)
	for _, key := range invalidKeys() {
		checkKeyedHash(t, impl.KeyedHash(impl.Mod(key, impl.Modulus), []int{6, 7}), key, 6, 7)
	}
}

func TestKeyedHashIsTheHashOfKeyValuesKey(t *testing.T) {
	for _, key := range append(cipherKeys(), hashedInts()...) {
		for _, values := range [][]int{nil, {}, {0}, {4}, {key}, {4, 5}, {5, 4}, {-4, 0, 0}, hashedInts()} {
			checkKeyedHash(t, impl.Hash(slices.Concat([]int{key}, values, []int{key})), key, values...)
			checkKeyedHash(t, expectedKeyedHash(key, values...), key, values...)
		}
	}
}

func TestKeyedHashDependsOnEachValue(t *testing.T) {
	for _, key := range cipherKeys() {
		for _, list := range [][]int{{0}, {7}, {-7, 7}, {0, 0, 0}, {1, 2, 3, 4, 5}, hashedInts()} {
			before := impl.KeyedHash(key, list)
			for i, old := range list {
				changed := slices.Clone(list)
				for _, now := range append(hashedInts(), old+1, old-1, old+2*impl.Modulus+1) {
					changed[i] = now
					same := impl.Mod(old, impl.Modulus) == impl.Mod(now, impl.Modulus)
					if got := impl.KeyedHash(key, changed); (got == before) != same {
						t.Errorf("KeyedHash(%d, %v) = %d, and with %d at index %d it is %d", key, list, before, now, i, got)
					}
				}
			}
		}
	}
}

func TestKeyedHashDiffersForManyValues(t *testing.T) {
	seen := map[int]int{}
	for v := -50000; v <= 50000; v++ {
		hash := impl.KeyedHash(77, []int{3, v, 4})
		if earlier, ok := seen[hash]; ok {
			t.Fatalf("KeyedHash(77, [3 v 4]) is %d for %d and for %d", hash, earlier, v)
		}
		seen[hash] = v
	}
}

func TestHashesDependOnOrderAndLength(t *testing.T) {
	lists := [][]int{{}, {0}, {0, 0}, {0, 0, 0}, {1}, {1, 0}, {0, 1}, {1, 1}, {1, 2}, {2, 1}, {1, 2, 3}, {3, 2, 1}, {1, 3, 2}}
	for i, a := range lists {
		for _, b := range lists[:i] {
			if impl.Hash(a) == impl.Hash(b) || impl.KeyedHash(9, a) == impl.KeyedHash(9, b) {
				t.Errorf("%v and %v have the same hash", a, b)
			}
		}
	}
}

func TestKeyedHashDependsOnItsKey(t *testing.T) {
	for _, values := range [][]int{nil, {0}, {4}, {4, 5, 6}} {
		seen := map[int]int{}
		for _, key := range hashedInts() {
			hash, reduced := impl.KeyedHash(key, values), impl.Mod(key, impl.Modulus)
			if earlier, ok := seen[hash]; ok && earlier != reduced {
				t.Errorf("KeyedHash of %v is %d for the keys %d and %d", values, hash, earlier, reduced)
			}
			seen[hash] = reduced
		}
	}
}

func TestIsValidKey(t *testing.T) {
	const m = impl.Modulus
	for _, key := range []int{1, 2, 77, 1000003, 1 << 30, m / 2, m - 2, m - 1} {
		if !impl.IsValidKey(key) {
			t.Errorf("IsValidKey(%d) = false", key)
		}
	}
	for _, key := range invalidKeys() {
		if impl.IsValidKey(key) {
			t.Errorf("IsValidKey(%d) = true", key)
		}
	}
}

func TestBytesToInts(t *testing.T) {
	cases := []struct {
		b    []byte
		want []int
	}{
		{nil, []int{0}},
		{[]byte{}, []int{0}},
		{[]byte{0}, []int{1, 0}},
		{[]byte{9, 8}, []int{2, 9, 8}},
		{[]byte{127, 128, 255}, []int{3, 127, 128, 255}},
		{[]byte{0, 0, 0}, []int{3, 0, 0, 0}},
		{[]byte{1, 2, 3}[:1], []int{1, 1}},
	}
	for _, c := range cases {
		if got := impl.BytesToInts(c.b); !slices.Equal(got, c.want) {
			t.Errorf("BytesToInts(%v) = %v, want %v", c.b, got, c.want)
		}
	}
}

func TestBytesToIntsOfLongStrings(t *testing.T) {
	for _, b := range [][]byte{allBytes(), patternBytes(300), patternBytes(70000)} {
		got := impl.BytesToInts(b)
		if len(got) != len(b)+1 || got[0] != len(b) {
			t.Fatalf("BytesToInts of %d bytes has %d elements, the first is %d", len(b), len(got), got[0])
		}
		for i, c := range b {
			if got[i+1] != int(c) {
				t.Errorf("BytesToInts has %d for the byte %d at index %d", got[i+1], c, i)
			}
		}
	}
}

func TestEncryptAndDecryptExamples(t *testing.T) {
	cases := []struct {
		key         int
		plain, want []byte
	}{
		{77, []byte("hello"), []byte{249, 57, 131, 198, 12}},
		{-1, []byte("hello"), []byte{11, 75, 149, 216, 30}},
		{0, []byte{0, 0, 0, 0}, []byte{255, 66, 133, 200}},
		{math.MinInt, []byte{255, 255, 255, 255}, []byte{70, 137, 204, 15}},
		{math.MaxInt, []byte{255, 255, 255, 255}, []byte{89, 156, 223, 34}},
	}
	for _, c := range cases {
		if got := impl.Encrypt(c.key, c.plain); !bytes.Equal(got, c.want) {
			t.Errorf("Encrypt(%d, %v) = %v, want %v", c.key, c.plain, got, c.want)
		}
		if got := impl.Decrypt(c.key, c.want); !bytes.Equal(got, c.plain) {
			t.Errorf("Decrypt(%d, %v) = %v, want %v", c.key, c.want, got, c.plain)
		}
	}
}

func TestDecryptInvertsEncrypt(t *testing.T) {
	for _, key := range cipherKeys() {
		for _, b := range cipherTexts() {
			if got := impl.Decrypt(key, impl.Encrypt(key, b)); !bytes.Equal(got, b) {
				t.Errorf("Decrypt(%d, Encrypt) of %d bytes is another string", key, len(b))
			}
			if got := impl.Encrypt(key, impl.Decrypt(key, b)); !bytes.Equal(got, b) {
				t.Errorf("Encrypt(%d, Decrypt) of %d bytes is another string", key, len(b))
			}
		}
	}
}

func TestEncryptAddsTheKeyedHashOfTheIndex(t *testing.T) {
	for _, key := range cipherKeys() {
		for _, b := range [][]byte{{0}, {255}, allBytes(), patternBytes(1000)} {
			encrypted, decrypted := impl.Encrypt(key, b), impl.Decrypt(key, b)
			if len(encrypted) != len(b) || len(decrypted) != len(b) {
				t.Fatalf("%d bytes became %d and %d", len(b), len(encrypted), len(decrypted))
			}
			for i, c := range b {
				hash := expectedKeyedHash(key, i)
				if want := (int(c) + hash) % 256; int(encrypted[i]) != want {
					t.Errorf("Encrypt(%d) has %d at index %d, want %d", key, encrypted[i], i, want)
				}
				if want := (int(c) + 256 - hash%256) % 256; int(decrypted[i]) != want {
					t.Errorf("Decrypt(%d) has %d at index %d, want %d", key, decrypted[i], i, want)
				}
			}
		}
	}
}

func TestEncryptAndDecryptNothing(t *testing.T) {
	for _, key := range cipherKeys() {
		for _, b := range [][]byte{nil, {}, []byte("hello")[:0]} {
			if got := impl.Encrypt(key, b); len(got) != 0 {
				t.Errorf("Encrypt(%d, nothing) = %v", key, got)
			}
			if got := impl.Decrypt(key, b); len(got) != 0 {
				t.Errorf("Decrypt(%d, nothing) = %v", key, got)
			}
		}
	}
}

func TestDecryptWithAnotherKey(t *testing.T) {
	plain := []byte("hello")
	for _, key := range []int{1, 2, 76, 78, impl.Modulus - 1, 0, -77, math.MaxInt} {
		if got := impl.Decrypt(key, impl.Encrypt(77, plain)); bytes.Equal(got, plain) {
			t.Errorf("the key %d decrypts what 77 encrypted", key)
		}
	}
	// Only the key modulo Modulus counts.
	if got := impl.Decrypt(77-impl.Modulus, impl.Encrypt(77+impl.Modulus, plain)); !bytes.Equal(got, plain) {
		t.Errorf("Decrypt = %v", got)
	}
}

func TestDeriveFromString(t *testing.T) {
	cases := []struct {
		key   int
		label string
		want  int
	}{
		{5, "ab", 1905036959},
		{5, "", 720832201},
		{5, "\x00", 686230505},
		{5, "\xff\x80", 1773710446},
		{-5, "\u00e9", 1134524168},
		{0, "", 32762367},
		{impl.Modulus, "", 32762367},
		{math.MinInt, "a", 2026233050},
		{math.MaxInt, "a", 879951042},
	}
	for _, c := range cases {
		if got := impl.DeriveFromString(c.key, c.label); got != c.want {
			t.Errorf("DeriveFromString(%d, %q) = %d, want %d", c.key, c.label, got, c.want)
		}
	}
}

func derivingLabels() []string {
	return []string{"", "a", "ab", "ba", "b", "\x00", "\x00\x00", "\x7f", "\x80", "\xff", "\xff\x80", "\u00e9", "\u20ac", "\U0001f511", "\ufffd", string(allBytes()), strings.Repeat("x", 3000)}
}

func TestDeriveFromStringIsTheKeyedHashOfTheBytes(t *testing.T) {
	for _, key := range cipherKeys() {
		for _, label := range derivingLabels() {
			got := impl.DeriveFromString(key, label)
			if want := impl.KeyedHash(key, impl.BytesToInts([]byte(label))); got != want {
				t.Errorf("DeriveFromString(%d, %q) = %d, want %d", key, label, got, want)
			}
			if !impl.IsValidKey(got) {
				t.Errorf("DeriveFromString(%d, %q) = %d is no valid key", key, label, got)
			}
		}
	}
}

func TestDeriveFromStringDiffersForLabels(t *testing.T) {
	labels := derivingLabels()
	for i, a := range labels {
		for _, b := range labels[:i] {
			if impl.DeriveFromString(5, a) == impl.DeriveFromString(5, b) {
				t.Errorf("the labels %q and %q give the same key", a, b)
			}
		}
	}
}

// keyOfHashZero solves for the key of which the keyed hash of the values is 0: the hash is linear in its key.
func keyOfHashZero(values []int) int {
	atZero := big.NewInt(int64(expectedKeyedHash(0, values...)))
	slope := big.NewInt(int64(expectedKeyedHash(1, values...)))
	slope = reducedBig(slope.Sub(slope, atZero))
	inverse := slope.ModInverse(slope, big.NewInt(impl.Modulus))
	return int(reducedBig(inverse.Mul(inverse, atZero.Neg(atZero))).Int64())
}

func TestDeriveFromStringIsNeverZero(t *testing.T) {
	for _, label := range derivingLabels() {
		values := impl.BytesToInts([]byte(label))
		key := keyOfHashZero(values)
		for _, k := range []int{key, key - impl.Modulus, key + impl.Modulus} {
			checkKeyedHash(t, 0, k, values...)
			if got := impl.DeriveFromString(k, label); got != 1 {
				t.Errorf("DeriveFromString(%d, %q) = %d, want 1", k, label, got)
			}
		}
		for _, k := range []int{key - 1, key + 1} {
			if got, want := impl.DeriveFromString(k, label), expectedKeyedHash(k, values...); got != want {
				t.Errorf("DeriveFromString(%d, %q) = %d, want %d", k, label, got, want)
			}
		}
	}
}

func TestHashesLeaveTheirArguments(t *testing.T) {
	for _, values := range [][]int{{}, {1}, {-1, impl.Modulus, math.MinInt}} {
		list, array := withSpare(77, values...)
		before := slices.Clone(array)
		impl.Hash(list)
		impl.KeyedHash(5, list)
		if !slices.Equal(array, before) {
			t.Errorf("a hash of %v changed its argument to %v", values, array)
		}
	}
}

func TestHashesOfSpareCapacity(t *testing.T) {
	list, _ := withSpare(77, 1, 2)
	checkHash(t, 668760222, list...)
	if got, want := impl.KeyedHash(5, list), expectedKeyedHash(5, 1, 2); got != want {
		t.Errorf("KeyedHash = %d, want %d", got, want)
	}
}

func TestBytesToIntsLeavesItsArgument(t *testing.T) {
	for _, values := range [][]byte{{}, {1}, {200, 0, 3}} {
		b, array := withSpare(77, values...)
		before := slices.Clone(array)
		checkApart(t, "BytesToInts", impl.BytesToInts(b), 99, array, before, 55)
	}
}

func TestCiphersLeaveTheirArguments(t *testing.T) {
	for _, values := range [][]byte{{}, {1}, {200, 0, 3}} {
		for _, key := range []int{5, 0, -1, math.MaxInt} {
			b, array := withSpare(77, values...)
			before := slices.Clone(array)
			checkApart(t, "Encrypt", impl.Encrypt(key, b), 99, array, before, 55)
			b, array = withSpare(77, values...)
			checkApart(t, "Decrypt", impl.Decrypt(key, b), 99, array, before, 55)
		}
	}
}

func TestResultsOfTwoCipherCallsAreApart(t *testing.T) {
	b := []byte("hello")
	first, second := impl.Encrypt(77, b), impl.Encrypt(77, b)
	clear(first)
	opened, again := impl.Decrypt(77, second), impl.Decrypt(77, second)
	clear(opened)
	if !bytes.Equal(again, b) {
		t.Error("two results of a cipher share memory")
	}
	ints, other := impl.BytesToInts(b), impl.BytesToInts(b)
	clear(ints)
	if !slices.Equal(other, []int{5, 104, 101, 108, 108, 111}) {
		t.Error("two results of BytesToInts share memory")
	}
}

func TestEqualInts(t *testing.T) {
	lists := [][]int{{}, {0}, {1}, {-1}, {0, 0}, {1, 2}, {2, 1}, {1, 2, 3}, {1, 2, 4}, {0, 2, 3}, {1, 0, 3}, {1 << 32}, {math.MaxInt}, {math.MinInt}}
	for i, a := range lists {
		for j, b := range lists {
			if got := impl.EqualInts(slices.Clone(a), slices.Clone(b)); got != (i == j) {
				t.Errorf("EqualInts(%v, %v) = %v", a, b, got)
			}
		}
	}
}

func TestEqualIntsOfNilAndSpare(t *testing.T) {
	if !impl.EqualInts(nil, nil) || !impl.EqualInts(nil, []int{}) || !impl.EqualInts([]int{}, nil) {
		t.Error("nil and empty are equal")
	}
	if impl.EqualInts(nil, []int{0}) || impl.EqualInts([]int{0}, nil) {
		t.Error("nil and one zero are not equal")
	}
	if whole := []int{1, 2, 3}; !impl.EqualInts(whole[:2], []int{1, 2}) || impl.EqualInts(whole[:2], whole) {
		t.Error("the spare capacity counts")
	}
}

func TestEqualIntsLeavesItsArguments(t *testing.T) {
	a, arrayA := withSpare(77, 1, 2)
	b, arrayB := withSpare(66, 1, 3)
	beforeA, beforeB := slices.Clone(arrayA), slices.Clone(arrayB)
	impl.EqualInts(a, b)
	if !slices.Equal(arrayA, beforeA) || !slices.Equal(arrayB, beforeB) {
		t.Error("EqualInts changed its arguments")
	}
}
