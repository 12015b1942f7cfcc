package tests

import (
	"math"
	"math/big"
	"slices"
	"testing"

	"loop.example/g00581/impl"
)

func listOf(master int, revoked ...int) impl.VendorList {
	return impl.VendorList{Master: master, Revoked: revoked}
}

func storeFrom(vendor int, serial int, seed int) impl.KeyStore {
	return impl.KeyStore{Vendor: vendor, Serial: serial, Seed: seed, Counter: 5}
}

func someMasters() []int {
	return []int{1, 2, 8, 9, 77, 1000003, lastKey - 1, lastKey}
}

func someSerials() []int {
	return []int{0, 1, 2, 30, 31, 4711, maxCounter - 1, maxCounter}
}

// attestedStores have different vendors, serials and seeds, and are those of different devices.
func attestedStores() []impl.KeyStore {
	list := []impl.KeyStore{}
	for vendor := 1; vendor <= maxVendor; vendor++ {
		for i, serial := range someSerials() {
			list = append(list, storeFrom(vendor, serial, []int{1, 77, 78, lastKey}[(vendor+i)%4]))
		}
	}
	return list
}

// validRevoked are in ascending order; many of their elements are the number of no device.
func validRevoked() [][]int {
	return [][]int{
		nil, {}, {20000030}, {10000005, 20000030}, {10000000, 91000000}, {20000029, 20000031}, {10000000, 10000001, 10000002, 20000031, 91000000},
		{0}, {-1}, {7}, {math.MinInt}, {math.MaxInt}, {math.MinInt, math.MaxInt}, {-20000030, 0, 30, 9999999, 21000001, 91000001, 100000000}, {math.MinInt, -1, 0, 1, 20000030, math.MaxInt},
	}
}

// notAscending have equal neighbours or a descent; in some of them the difference of two neighbours wraps around.
func notAscending() [][]int {
	return [][]int{
		{20000030, 20000030}, {0, 0}, {10000005, 10000005, 20000030}, {10000005, 20000030, 20000030}, {10000005, 20000030, 20000030, 20000031},
		{20000030, 10000005}, {20000031, 20000030, 20000029}, {10000005, 20000030, 20000029}, {20000030, 10000005, 20000031}, {10000005, 20000031, 20000030, 30000000},
		{1, 0}, {0, -1}, {math.MaxInt, math.MinInt}, {0, math.MaxInt, math.MinInt}, {math.MaxInt, math.MaxInt}, {math.MinInt, math.MinInt}, {math.MinInt, math.MaxInt, 0}, {5, 20000030, 5},
	}
}

func validLists() []impl.VendorList {
	list := []impl.VendorList{}
	for _, revoked := range validRevoked() {
		for _, master := range []int{1, 9, lastKey} {
			list = append(list, listOf(master, revoked...))
		}
	}
	return list
}

func invalidLists() []impl.VendorList {
	list := []impl.VendorList{{}}
	for _, master := range notKeys() {
		list = append(list, listOf(master), listOf(master, 10000005), listOf(master, 10000005, 20000030), listOf(master, 20000030, 10000005))
	}
	for _, revoked := range notAscending() {
		list = append(list, listOf(9, revoked...), listOf(1, revoked...), listOf(lastKey, revoked...))
	}
	return list
}

// outOfRange are pairs of a vendor and a serial of no device; some have the number of a device.
func outOfRange() [][2]int {
	list := [][2]int{{0, 0}, {0, 30}, {0, 20000030}, {10, 0}, {10, 30}, {10, -10000000}, {1, -1}, {9, -1}, {1, maxCounter + 1}, {9, maxCounter + 1}, {1, 10000030}, {3, -9999970}, {-1, -1}, {math.MinInt, math.MinInt}, {math.MaxInt, math.MaxInt}}
	for _, vendor := range append(beyondRange(maxVendor), 0) {
		list = append(list, [2]int{vendor, 30})
	}
	for _, serial := range beyondRange(maxCounter) {
		list = append(list, [2]int{2, serial})
	}
	return list
}

func expectedVendorPrivate(master int, vendor int) int {
	return max(1, expectedKeyedHash(master, 151, 191, vendor))
}

// signedAs is what the vendor would sign, also where there is no such device.
func signedAs(master int, vendor int, serial int, key int) impl.Attestation {
	signature := expectedSignature(expectedVendorPrivate(master, vendor), []int{193, vendor, serial, key})
	return impl.Attestation{Vendor: vendor, Serial: serial, Key: key, Signature: signature}
}

func expectedAttestation(master int, s impl.KeyStore) impl.Attestation {
	return signedAs(master, s.Vendor, s.Serial, expectedPublic(expectedDevicePrivate(s.Seed)))
}

// expectedNumber wraps around as a number of 64 bits does.
func expectedNumber(vendor int, serial int) int {
	number := big.NewInt(int64(vendor))
	number.Mul(number, big.NewInt(10000000))
	number.Add(number, big.NewInt(int64(serial)))
	lowest := new(big.Int).SetUint64(math.MaxUint64)
	return int(number.And(number, lowest).Uint64())
}

func expectedValidList(l impl.VendorList) bool {
	return isKey(l.Master) && slices.Equal(l.Revoked, slices.Compact(slices.Sorted(slices.Values(l.Revoked))))
}

func isDevice(vendor int, serial int) bool {
	return vendor >= 1 && vendor <= 9 && serial >= 0 && serial <= 1000000
}

func expectedChecked(l impl.VendorList, a impl.Attestation) bool {
	if !expectedValidList(l) || !isDevice(a.Vendor, a.Serial) || slices.Contains(l.Revoked, expectedNumber(a.Vendor, a.Serial)) {
		return false
	}
	return a == signedAs(l.Master, a.Vendor, a.Serial, a.Key)
}

func sameVendorList(a impl.VendorList, b impl.VendorList) bool {
	return a.Master == b.Master && slices.Equal(a.Revoked, b.Revoked)
}

func attested(t *testing.T, master int, s impl.KeyStore) impl.Attestation {
	t.Helper()
	a, ok := impl.Attest(master, s)
	if !ok {
		t.Errorf("Attest(%d, %+v) failed", master, s)
	}
	return a
}

func checkVendorPrivate(t *testing.T, master int, vendor int, want int) {
	t.Helper()
	if got := impl.VendorPrivate(master, vendor); got != want {
		t.Errorf("VendorPrivate(%d, %d) = %d, want %d", master, vendor, got, want)
	}
}

func checkAttested(t *testing.T, master int, s impl.KeyStore, want impl.Attestation) {
	t.Helper()
	if got, ok := impl.Attest(master, s); got != want || !ok {
		t.Errorf("Attest(%d, %+v) = %+v, %v, want %+v, true", master, s, got, ok, want)
	}
}

func checkNotAttested(t *testing.T, master int, s impl.KeyStore) {
	t.Helper()
	if got, ok := impl.Attest(master, s); got != (impl.Attestation{}) || ok {
		t.Errorf("Attest(%d, %+v) = %+v, %v", master, s, got, ok)
	}
}

func checkValidList(t *testing.T, l impl.VendorList, want bool) {
	t.Helper()
	if got := impl.IsValidList(l); got != want {
		t.Errorf("IsValidList(%+v) = %v", l, got)
	}
}

func checkChecked(t *testing.T, l impl.VendorList, a impl.Attestation, want bool) {
	t.Helper()
	if got := impl.CheckAttestation(l, a); got != want {
		t.Errorf("CheckAttestation(%+v, %+v) = %v", l, a, got)
	}
}

func checkRevoked(t *testing.T, l impl.VendorList, vendor int, serial int, want ...int) impl.VendorList {
	t.Helper()
	got, ok := impl.RevokeDevice(l, vendor, serial)
	if !sameVendorList(got, listOf(l.Master, want...)) || !ok {
		t.Errorf("RevokeDevice(%+v, %d, %d) = %+v, %v, want %v, true", l, vendor, serial, got, ok, want)
	}
	return got
}

func checkNotRevoked(t *testing.T, l impl.VendorList, vendor int, serial int) {
	t.Helper()
	if got, ok := impl.RevokeDevice(l, vendor, serial); !sameVendorList(got, l) || ok {
		t.Errorf("RevokeDevice(%+v, %d, %d) = %+v, %v", l, vendor, serial, got, ok)
	}
}

func checkIsRevoked(t *testing.T, l impl.VendorList, vendor int, serial int, want bool) {
	t.Helper()
	if got := impl.IsRevoked(l, vendor, serial); got != want {
		t.Errorf("IsRevoked(%+v, %d, %d) = %v", l, vendor, serial, got)
	}
}

func TestVendorPrivate(t *testing.T) {
	checkVendorPrivate(t, 9, 1, 164570028)
	checkVendorPrivate(t, 9, 2, 165570031)
	checkVendorPrivate(t, 9, 9, 172570052)
	checkVendorPrivate(t, 8, 2, 708486821)
	checkVendorPrivate(t, 1, 1, 212937054)
	checkVendorPrivate(t, lastKey, 9, 1306770658)
}

// The chapter gives no fallback, so the key of any numbers is what the definition gives.
func TestVendorPrivateOfAnyNumbers(t *testing.T) {
	checkVendorPrivate(t, 9, 0, 163570025)
	checkVendorPrivate(t, 9, 10, 173570055)
	checkVendorPrivate(t, 9, -1, 162570022)
	checkVendorPrivate(t, 9, math.MinInt, 161570019)
	checkVendorPrivate(t, 0, 2, 756853847)
	checkVendorPrivate(t, impl.Modulus, 2, 756853847)
	checkVendorPrivate(t, -1, 2, 1299770637)
	checkVendorPrivate(t, math.MinInt, math.MaxInt, 1841687424)
}

func TestVendorPrivateFollowsItsDefinition(t *testing.T) {
	for _, master := range append(someMasters(), notKeys()...) {
		for _, vendor := range append(anyInts(), 1, 2, 3, 4, 5, 6, 7, 8, 9, 10, 191) {
			checkVendorPrivate(t, master, vendor, expectedVendorPrivate(master, vendor))
			checkVendorPrivate(t, master, vendor, impl.DeriveKey(master, []int{191, vendor}))
		}
	}
}

func TestVendorPrivateIsNeverZero(t *testing.T) {
	for vendor := 1; vendor <= maxVendor; vendor++ {
		master := keyOfHashZero([]int{151, 191, vendor})
		for _, m := range []int{master, master - impl.Modulus, master + impl.Modulus} {
			checkKeyedHash(t, 0, m, 151, 191, vendor)
			checkVendorPrivate(t, m, vendor, 1)
			checkAttested(t, m, storeFrom(vendor, 30, 77), signedAs(m, vendor, 30, 2071455693))
		}
	}
}

func TestVendorKeysDiffer(t *testing.T) {
	vendors := map[int][2]int{}
	for _, master := range someMasters() {
		for vendor := 1; vendor <= maxVendor; vendor++ {
			private := impl.VendorPrivate(master, vendor)
			if earlier, ok := vendors[private]; ok {
				t.Errorf("the master and the vendor %v and %d, %d have the key %d", earlier, master, vendor, private)
			}
			vendors[private] = [2]int{master, vendor}
		}
	}
}

func TestAttest(t *testing.T) {
	checkAttested(t, 9, storeFrom(2, 30, 77), impl.Attestation{Vendor: 2, Serial: 30, Key: 2071455693, Signature: 2139747378})
	checkAttested(t, 8, storeFrom(2, 30, 77), impl.Attestation{Vendor: 2, Serial: 30, Key: 2071455693, Signature: 411734111})
	checkAttested(t, 9, storeFrom(2, 31, 77), impl.Attestation{Vendor: 2, Serial: 31, Key: 2071455693, Signature: 1418367885})
	checkAttested(t, 9, storeFrom(3, 30, 77), impl.Attestation{Vendor: 3, Serial: 30, Key: 2071455693, Signature: 440051393})
	checkAttested(t, 9, storeFrom(2, 30, 78), impl.Attestation{Vendor: 2, Serial: 30, Key: 2033069171, Signature: 1772777937})
	checkAttested(t, 9, storeFrom(1, 0, 1), impl.Attestation{Vendor: 1, Serial: 0, Key: 693864071, Signature: 1830898141})
	checkAttested(t, 9, storeFrom(9, maxCounter, lastKey), impl.Attestation{Vendor: 9, Serial: 1000000, Key: 770637115, Signature: 770903971})
	checkAttested(t, 1, storeFrom(1, 0, 77), impl.Attestation{Vendor: 1, Serial: 0, Key: 2071455693, Signature: 919303782})
	checkAttested(t, lastKey, storeFrom(9, maxCounter, 77), impl.Attestation{Vendor: 9, Serial: 1000000, Key: 2071455693, Signature: 2111795137})
}

// The chapter asks for a valid store only: any master signs, as what the definition gives.
func TestAttestWithAnInvalidMaster(t *testing.T) {
	checkAttested(t, 0, storeFrom(2, 30, 77), impl.Attestation{Vendor: 2, Serial: 30, Key: 2071455693, Signature: 1620013504})
	checkAttested(t, -1, storeFrom(2, 30, 77), impl.Attestation{Vendor: 2, Serial: 30, Key: 2071455693, Signature: 2039483884})
	checkAttested(t, math.MinInt, storeFrom(2, 30, 77), impl.Attestation{Vendor: 2, Serial: 30, Key: 2071455693, Signature: 311470617})
	checkAttested(t, impl.Modulus+9, storeFrom(2, 30, 77), impl.Attestation{Vendor: 2, Serial: 30, Key: 2071455693, Signature: 2139747378})
}

func TestAttestFollowsItsDefinition(t *testing.T) {
	for _, s := range append(validStores(), attestedStores()...) {
		for _, master := range append(someMasters(), 0, -1, impl.Modulus, math.MinInt, math.MaxInt) {
			checkAttested(t, master, s, expectedAttestation(master, s))
		}
		a := attested(t, 9, s)
		signature := impl.SignMessage(impl.VendorPrivate(9, s.Vendor), []int{193, s.Vendor, s.Serial, impl.DevicePublic(s)})
		if a != (impl.Attestation{Vendor: s.Vendor, Serial: s.Serial, Key: impl.DevicePublic(s), Signature: signature}) {
			t.Errorf("the attestation of %+v is %+v", s, a)
		}
	}
}

func TestAttestDoesNotDependOnTheCounter(t *testing.T) {
	s := storeFrom(2, 30, 77)
	a := attested(t, 9, s)
	for _, counter := range []int{0, 1, 6, maxCounter - 1, maxCounter} {
		s.Counter = counter
		checkAttested(t, 9, s, a)
	}
	signed, _, _ := impl.SignWithStore(storeFrom(2, 30, 77), "bank.com", 3, []int{9})
	checkAttested(t, 9, signed, a)
	checkAttested(t, 9, impl.CloneStore(signed), a)
}

func TestAttestOfAnInvalidStore(t *testing.T) {
	for _, s := range invalidStores() {
		for _, master := range append(someMasters(), 0, -1, impl.Modulus) {
			checkNotAttested(t, master, s)
		}
	}
}

func TestAttestAtTheEndsOfTheRanges(t *testing.T) {
	ranges := []struct {
		valid   []impl.KeyStore
		invalid []impl.KeyStore
	}{
		{[]impl.KeyStore{storeFrom(1, 30, 77), storeFrom(9, 30, 77)}, []impl.KeyStore{storeFrom(0, 30, 77), storeFrom(-1, 30, 77), storeFrom(10, 30, 77)}},
		{[]impl.KeyStore{storeFrom(2, 0, 77), storeFrom(2, maxCounter, 77)}, []impl.KeyStore{storeFrom(2, -1, 77), storeFrom(2, maxCounter+1, 77)}},
		{[]impl.KeyStore{storeFrom(2, 30, 1), storeFrom(2, 30, lastKey)}, []impl.KeyStore{storeFrom(2, 30, 0), storeFrom(2, 30, -1), storeFrom(2, 30, impl.Modulus)}},
		{[]impl.KeyStore{storeOf(77, 0), storeOf(77, maxCounter)}, []impl.KeyStore{storeOf(77, -1), storeOf(77, maxCounter+1)}},
	}
	for _, r := range ranges {
		for _, s := range r.valid {
			checkAttested(t, 9, s, expectedAttestation(9, s))
		}
		for _, s := range r.invalid {
			checkNotAttested(t, 9, s)
		}
	}
}

func TestIsValidList(t *testing.T) {
	for _, l := range validLists() {
		checkValidList(t, l, true)
	}
	for _, l := range invalidLists() {
		checkValidList(t, l, false)
	}
}

func TestIsValidListAtTheEndsOfTheKeys(t *testing.T) {
	for _, revoked := range [][]int{nil, {20000030}, {10000005, 20000030}} {
		for master, want := range map[int]bool{-1: false, 0: false, 1: true, 2: true, 2147483645: true, 2147483646: true, 2147483647: false, 2147483648: false} {
			checkValidList(t, listOf(master, revoked...), want)
		}
	}
}

func TestIsValidListOfEveryOrder(t *testing.T) {
	for size := range 5 {
		for _, order := range arrangements([]int{math.MinInt, -1, 20000030, math.MaxInt}, size) {
			checkValidList(t, listOf(9, order...), slices.IsSorted(order))
		}
	}
}

// One wrong place is enough, wherever in a long list it is.
func TestIsValidListOfALongList(t *testing.T) {
	long := []int{}
	for i := range 300 {
		long = append(long, 10000000+i*7)
	}
	checkValidList(t, listOf(9, long...), true)
	for i := range len(long) - 1 {
		swapped := slices.Clone(long)
		swapped[i], swapped[i+1] = swapped[i+1], swapped[i]
		checkValidList(t, listOf(9, swapped...), false)
		repeated := slices.Clone(long)
		repeated[i+1] = repeated[i]
		checkValidList(t, listOf(9, repeated...), false)
	}
}

func TestAttestationIsAccepted(t *testing.T) {
	for _, s := range append(validStores(), attestedStores()...) {
		for _, master := range someMasters() {
			a := attested(t, master, s)
			checkChecked(t, listOf(master), a, true)
			checkChecked(t, impl.VendorList{Master: master, Revoked: []int{}}, a, true)
		}
	}
}

func TestAttestationIsRefusedUnderAnotherMaster(t *testing.T) {
	for _, s := range attestedStores() {
		for _, master := range someMasters() {
			a := attested(t, master, s)
			for _, other := range someMasters() {
				checkChecked(t, listOf(other), a, other == master)
			}
		}
	}
	a := attested(t, 9, storeFrom(2, 30, 77))
	for _, other := range someKeys() {
		checkChecked(t, listOf(other), a, other == 9)
	}
}

// Two masters of which one has the hash 0 and the other the hash 1 have the same vendor key, as DeriveKey returns 1 for both.
func TestMastersWithTheSameVendorKey(t *testing.T) {
	for vendor := 1; vendor <= maxVendor; vendor++ {
		values := []int{151, 191, vendor}
		zero := keyOfHashZero(values)
		slope := big.NewInt(int64(expectedKeyedHash(zero+1, values...)))
		one := int(reducedBig(slope.Add(slope.ModInverse(slope, big.NewInt(impl.Modulus)), big.NewInt(int64(zero)))).Int64())
		checkVendorPrivate(t, zero, vendor, 1)
		checkVendorPrivate(t, one, vendor, 1)
		checkChecked(t, listOf(one), attested(t, zero, storeFrom(vendor, 30, 77)), true)
		checkChecked(t, listOf(one+1), attested(t, zero, storeFrom(vendor, 30, 77)), false)
	}
}

func TestAttestationOfAnInvalidMaster(t *testing.T) {
	s := storeFrom(2, 30, 77)
	for _, master := range notKeys() {
		checkChecked(t, listOf(master), attested(t, master, s), false)
	}
	for _, multiple := range []int{-2, -1, 1, 2} {
		checkChecked(t, listOf(9), attested(t, 9+multiple*impl.Modulus, s), true)
		checkChecked(t, listOf(9+multiple*impl.Modulus), attested(t, 9, s), false)
	}
}

// changedNumbers are numbers other than n, also modulo Modulus.
func changedNumbers(n int) []int {
	list := []int{}
	for _, other := range append(anyInts(), n-1, n+1, n-2, n+2, n*2+1, -n-1, n+10, n-10, n^1, n^64, n+1<<32, n-1<<32, n+10000000, n-10000000, impl.Modulus-n-1) {
		if (other-n)%impl.Modulus != 0 {
			list = append(list, other)
		}
	}
	return list
}

func TestAttestationIsRefusedWithAFieldChanged(t *testing.T) {
	for _, s := range attestedStores() {
		l := listOf(9)
		a := attested(t, 9, s)
		checkChecked(t, l, a, true)
		for vendor := -2; vendor <= 12; vendor++ {
			checkChecked(t, l, impl.Attestation{Vendor: vendor, Serial: a.Serial, Key: a.Key, Signature: a.Signature}, vendor == a.Vendor)
		}
		for _, n := range append(changedNumbers(a.Vendor), a.Vendor+impl.Modulus, a.Vendor-impl.Modulus) {
			checkChecked(t, l, impl.Attestation{Vendor: n, Serial: a.Serial, Key: a.Key, Signature: a.Signature}, false)
		}
		for _, n := range append(changedNumbers(a.Serial), a.Serial+impl.Modulus, a.Serial-impl.Modulus) {
			checkChecked(t, l, impl.Attestation{Vendor: a.Vendor, Serial: n, Key: a.Key, Signature: a.Signature}, false)
		}
		for _, n := range changedNumbers(a.Key) {
			checkChecked(t, l, impl.Attestation{Vendor: a.Vendor, Serial: a.Serial, Key: n, Signature: a.Signature}, false)
		}
		for _, n := range append(changedNumbers(a.Signature), a.Signature+impl.Modulus, a.Signature-impl.Modulus) {
			checkChecked(t, l, impl.Attestation{Vendor: a.Vendor, Serial: a.Serial, Key: a.Key, Signature: n}, false)
		}
	}
}

// The hash takes every value modulo Modulus, and the chapter has no range for Key.
func TestAttestationWithAKeyThatIsEqualModuloModulus(t *testing.T) {
	a := attested(t, 9, storeFrom(2, 30, 77))
	for _, multiple := range []int{-1 << 31, -2, -1, 1, 2, 1 << 31} {
		other := a
		other.Key += multiple * impl.Modulus
		checkChecked(t, listOf(9), other, true)
		checkChecked(t, listOf(9, 20000030), other, false)
	}
}

// Of all mixtures of two attestations, only these two themselves are accepted.
func TestMixedAttestations(t *testing.T) {
	pairs := [][2]impl.KeyStore{
		{storeFrom(2, 30, 77), storeFrom(3, 31, 78)}, {storeFrom(1, 0, 1), storeFrom(9, maxCounter, lastKey)}, {storeFrom(5, 4711, 78), storeFrom(4, 4712, 77)},
	}
	for _, pair := range pairs {
		first, second := attested(t, 9, pair[0]), attested(t, 9, pair[1])
		for choice := range 16 {
			a := first
			if choice&1 != 0 {
				a.Vendor = second.Vendor
			}
			if choice&2 != 0 {
				a.Serial = second.Serial
			}
			if choice&4 != 0 {
				a.Key = second.Key
			}
			if choice&8 != 0 {
				a.Signature = second.Signature
			}
			checkChecked(t, listOf(9), a, choice == 0 || choice == 15)
		}
	}
}

func TestAttestationThatIsSignedOtherwise(t *testing.T) {
	s := storeFrom(2, 30, 77)
	a := attested(t, 9, s)
	message := []int{193, a.Vendor, a.Serial, a.Key}
	signatures := []int{
		0, 1, a.Key,
		impl.SignMessage(9, message),
		impl.SignMessage(impl.VendorPrivate(9, 1), message),
		impl.SignMessage(impl.VendorPrivate(8, 2), message),
		impl.SignMessage(impl.PublicKey(impl.VendorPrivate(9, 2)), message),
		impl.SignMessage(impl.DeriveKey(9, []int{2}), message),
		impl.SignMessage(impl.DeriveKey(9, []int{191}), message),
		impl.SignMessage(impl.VendorPrivate(9, 2), message[1:]),
		impl.SignMessage(impl.VendorPrivate(9, 2), []int{191, a.Vendor, a.Serial, a.Key}),
		impl.SignMessage(impl.VendorPrivate(9, 2), []int{193, a.Serial, a.Vendor, a.Key}),
		impl.SignMessage(impl.VendorPrivate(9, 2), []int{193, a.Vendor, a.Serial, a.Key, 0}),
		impl.KeyedHash(impl.VendorPrivate(9, 2), message),
		impl.SignAsDevice(s, message),
	}
	for _, signature := range signatures {
		checkChecked(t, listOf(9), impl.Attestation{Vendor: a.Vendor, Serial: a.Serial, Key: a.Key, Signature: signature}, false)
	}
}

// keyOfSignatureZero solves for the key that the vendor signs with 0: the hash is linear in the last value of the message.
func keyOfSignatureZero(master int, vendor int, serial int) int {
	atZero := big.NewInt(int64(signedAs(master, vendor, serial, 0).Signature))
	slope := new(big.Int).ModInverse(big.NewInt(1000003), big.NewInt(impl.Modulus))
	return int(reducedBig(slope.Mul(slope, atZero.Neg(atZero))).Int64())
}

func TestAttestationWithASignatureOfZero(t *testing.T) {
	for _, s := range attestedStores() {
		checkChecked(t, listOf(9), impl.Attestation{Vendor: s.Vendor, Serial: s.Serial, Key: impl.DevicePublic(s)}, false)
		a := impl.Attestation{Vendor: s.Vendor, Serial: s.Serial, Key: keyOfSignatureZero(9, s.Vendor, s.Serial)}
		checkChecked(t, listOf(9), a, true)
		checkChecked(t, listOf(8), a, false)
		a.Signature = impl.Modulus
		checkChecked(t, listOf(9), a, false)
	}
	checkChecked(t, listOf(9), impl.Attestation{}, false)
}

// The vendor has signed these, but there is no such device.
func TestSignedAttestationOutOfRange(t *testing.T) {
	for _, device := range outOfRange() {
		a := signedAs(9, device[0], device[1], 2071455693)
		public := impl.PublicKey(impl.VendorPrivate(9, a.Vendor))
		checkAccepted(t, true, public, []int{193, a.Vendor, a.Serial, a.Key}, a.Signature)
		checkChecked(t, listOf(9), a, false)
		checkChecked(t, listOf(9, 20000030), a, false)
	}
}

func TestSignedAttestationAtTheEndsOfTheRanges(t *testing.T) {
	for vendor := -2; vendor <= 12; vendor++ {
		checkChecked(t, listOf(9), signedAs(9, vendor, 30, 2071455693), vendor >= 1 && vendor <= 9)
	}
	for serial, want := range map[int]bool{-2: false, -1: false, 0: true, 1: true, 999999: true, 1000000: true, 1000001: false, 1000002: false} {
		for _, vendor := range []int{1, 2, 9} {
			checkChecked(t, listOf(9), signedAs(9, vendor, serial, 2071455693), want)
		}
		checkChecked(t, listOf(9), signedAs(9, 0, serial, 2071455693), false)
		checkChecked(t, listOf(9), signedAs(9, 10, serial, 2071455693), false)
	}
}

func TestSignedAttestationOfAnyKey(t *testing.T) {
	for _, key := range slices.Concat(anyInts(), hashedInts(), notKeys()) {
		checkChecked(t, listOf(9), signedAs(9, 2, 30, key), true)
		checkChecked(t, listOf(8), signedAs(9, 2, 30, key), false)
	}
}

func TestCheckAttestationOfAnInvalidList(t *testing.T) {
	for _, l := range invalidLists() {
		for _, s := range []impl.KeyStore{storeFrom(2, 30, 77), storeFrom(1, 5, 78), storeFrom(9, maxCounter, 1)} {
			checkChecked(t, l, attested(t, l.Master, s), false)
			checkChecked(t, l, attested(t, 9, s), false)
		}
		checkChecked(t, l, impl.Attestation{}, false)
	}
}

func TestCheckAttestationFollowsItsDefinition(t *testing.T) {
	attestations := []impl.Attestation{{}, {Vendor: 2, Serial: 30}, {Vendor: 2, Serial: 30, Key: 2071455693, Signature: 2139747377}}
	for _, device := range append(outOfRange()[:12], [][2]int{{2, 30}, {1, 5}, {1, 0}, {9, maxCounter}, {2, 29}, {2, 31}, {2, 1000000}}...) {
		for _, master := range []int{1, 9, lastKey} {
			attestations = append(attestations, signedAs(master, device[0], device[1], 2071455693))
		}
	}
	accepted := 0
	for _, l := range append(validLists(), invalidLists()...) {
		for _, a := range attestations {
			want := expectedChecked(l, a)
			checkChecked(t, l, a, want)
			if want {
				accepted++
			}
		}
	}
	if accepted < 100 {
		t.Errorf("only %d attestations are accepted", accepted)
	}
}

// The chapter defines the check with VerifySignature.
func TestCheckAttestationAgreesWithVerifySignature(t *testing.T) {
	for _, s := range attestedStores() {
		for _, master := range []int{1, 9, lastKey} {
			a := attested(t, master, s)
			for _, n := range append(anyInts(), a.Signature, a.Signature-1, a.Signature+impl.Modulus) {
				for _, key := range []int{a.Key, a.Key + 1, a.Key - impl.Modulus} {
					other := impl.Attestation{Vendor: a.Vendor, Serial: a.Serial, Key: key, Signature: n}
					public := impl.PublicKey(impl.VendorPrivate(9, a.Vendor))
					checkChecked(t, listOf(9), other, impl.VerifySignature(public, []int{193, a.Vendor, a.Serial, key}, n))
				}
			}
		}
	}
}

func TestRevokeDevice(t *testing.T) {
	l := checkRevoked(t, listOf(9), 2, 30, 20000030)
	l = checkRevoked(t, l, 1, 5, 10000005, 20000030)
	l = checkRevoked(t, l, 9, 0, 10000005, 20000030, 90000000)
	l = checkRevoked(t, l, 2, 29, 10000005, 20000029, 20000030, 90000000)
	l = checkRevoked(t, l, 2, 31, 10000005, 20000029, 20000030, 20000031, 90000000)
	l = checkRevoked(t, l, 1, 0, 10000000, 10000005, 20000029, 20000030, 20000031, 90000000)
	l = checkRevoked(t, l, 9, maxCounter, 10000000, 10000005, 20000029, 20000030, 20000031, 90000000, 91000000)
	checkValidList(t, l, true)
}

func TestRevokeDeviceInEmptyListsAndListsOfOneElement(t *testing.T) {
	for _, empty := range [][]int{nil, {}} {
		checkRevoked(t, impl.VendorList{Master: 9, Revoked: empty}, 2, 30, 20000030)
		checkRevoked(t, impl.VendorList{Master: 1, Revoked: empty}, 1, 0, 10000000)
		checkRevoked(t, impl.VendorList{Master: lastKey, Revoked: empty}, 9, maxCounter, 91000000)
	}
	checkRevoked(t, listOf(9, 20000030), 2, 29, 20000029, 20000030)
	checkRevoked(t, listOf(9, 20000030), 2, 31, 20000030, 20000031)
	checkNotRevoked(t, listOf(9, 20000030), 2, 30)
}

func TestRevokeDeviceBesideNumbersOfNoDevice(t *testing.T) {
	checkRevoked(t, listOf(9, 0), 2, 30, 0, 20000030)
	checkRevoked(t, listOf(9, 92000000), 2, 30, 20000030, 92000000)
	checkRevoked(t, listOf(9, math.MinInt, math.MaxInt), 2, 30, math.MinInt, 20000030, math.MaxInt)
	checkRevoked(t, listOf(9, -20000030, 0, 30, 9999999, 21000001, 91000001), 2, 30, -20000030, 0, 30, 9999999, 20000030, 21000001, 91000001)
	checkRevoked(t, listOf(9, math.MinInt, -1), 1, 0, math.MinInt, -1, 10000000)
	checkRevoked(t, listOf(9, 91000001, math.MaxInt), 9, maxCounter, 91000000, 91000001, math.MaxInt)
}

func TestRevokeDeviceAtEveryPlace(t *testing.T) {
	for _, size := range []int{1, 2, 3, 4, 7, 8, 9, 100} {
		revoked := []int{}
		for i := range size {
			revoked = append(revoked, 20000000+10*i)
		}
		for place := range size + 1 {
			serial := 10*place - 5
			vendor := 2
			if place == 0 {
				vendor, serial = 1, maxCounter
			}
			want := slices.Concat(revoked[:place], []int{vendor*10000000 + serial}, revoked[place:])
			l := checkRevoked(t, listOf(9, revoked...), vendor, serial, want...)
			checkValidList(t, l, true)
			checkNotRevoked(t, l, vendor, serial)
		}
		for i := range size {
			checkNotRevoked(t, listOf(9, revoked...), 2, 10*i)
		}
	}
}

func TestRevokeDeviceInEveryOrder(t *testing.T) {
	devices := [][2]int{{1, 0}, {1, maxCounter}, {2, 0}, {2, 30}, {9, maxCounter}}
	for _, order := range arrangements(devices, len(devices)) {
		l := listOf(9)
		want := []int{}
		for _, device := range order {
			want = append(want, device[0]*10000000+device[1])
			slices.Sort(want)
			l = checkRevoked(t, l, device[0], device[1], want...)
			checkValidList(t, l, true)
		}
		for _, device := range order {
			checkNotRevoked(t, l, device[0], device[1])
		}
	}
}

func TestRevokeDeviceTwice(t *testing.T) {
	for _, s := range attestedStores() {
		l, _ := impl.RevokeDevice(listOf(9, 10000003, 50000000, 90000007), s.Vendor, s.Serial)
		for range 3 {
			checkNotRevoked(t, l, s.Vendor, s.Serial)
			l, _ = impl.RevokeDevice(l, s.Vendor, s.Serial)
		}
	}
}

func TestRevokeDeviceOutOfRange(t *testing.T) {
	for _, l := range append(validLists(), invalidLists()...) {
		for _, device := range outOfRange() {
			checkNotRevoked(t, l, device[0], device[1])
		}
	}
}

func TestRevokeDeviceAtTheEndsOfTheRanges(t *testing.T) {
	for vendor := -2; vendor <= 12; vendor++ {
		for _, serial := range []int{-2, -1, 0, 1, 999999, 1000000, 1000001, 1000002} {
			if isDevice(vendor, serial) {
				checkRevoked(t, listOf(9), vendor, serial, vendor*10000000+serial)
			} else {
				checkNotRevoked(t, listOf(9), vendor, serial)
			}
		}
	}
}

func TestRevokeDeviceOfAnInvalidList(t *testing.T) {
	for _, l := range invalidLists() {
		for _, device := range [][2]int{{2, 30}, {1, 5}, {1, 0}, {9, maxCounter}, {5, 4711}} {
			checkNotRevoked(t, l, device[0], device[1])
		}
	}
}

func TestRevokeDeviceFollowsItsDefinition(t *testing.T) {
	for _, l := range append(validLists(), invalidLists()...) {
		for _, s := range attestedStores() {
			number := expectedNumber(s.Vendor, s.Serial)
			if !expectedValidList(l) || slices.Contains(l.Revoked, number) {
				checkNotRevoked(t, l, s.Vendor, s.Serial)
				continue
			}
			want := append(slices.Clone(l.Revoked), number)
			slices.Sort(want)
			checkRevoked(t, l, s.Vendor, s.Serial, want...)
		}
	}
}

func TestIsRevoked(t *testing.T) {
	l := listOf(9, 10000005, 20000030, 91000000)
	for _, s := range attestedStores() {
		revoked := s.Vendor == 2 && s.Serial == 30 || s.Vendor == 9 && s.Serial == maxCounter
		checkIsRevoked(t, l, s.Vendor, s.Serial, revoked)
		checkIsRevoked(t, listOf(9), s.Vendor, s.Serial, false)
		checkIsRevoked(t, impl.VendorList{Master: 9, Revoked: []int{}}, s.Vendor, s.Serial, false)
		checkIsRevoked(t, impl.VendorList{}, s.Vendor, s.Serial, false)
	}
	for serial := range 20 {
		checkIsRevoked(t, l, 1, serial, serial == 5)
	}
}

// The list need not be valid: every element counts, in any order and under any master.
func TestIsRevokedOfAnInvalidList(t *testing.T) {
	for _, l := range invalidLists() {
		for _, device := range [][2]int{{2, 30}, {2, 29}, {2, 31}, {1, 5}, {3, 0}, {0, 0}, {0, 5}} {
			checkIsRevoked(t, l, device[0], device[1], slices.Contains(l.Revoked, device[0]*10000000+device[1]))
		}
	}
	for _, order := range arrangements([]int{10000005, 20000030, 20000031, 91000000}, 4) {
		l := listOf(0, order...)
		checkIsRevoked(t, l, 1, 5, true)
		checkIsRevoked(t, l, 2, 30, true)
		checkIsRevoked(t, l, 2, 31, true)
		checkIsRevoked(t, l, 9, maxCounter, true)
		checkIsRevoked(t, l, 2, 29, false)
	}
}

// The chapter compares the sum alone, also where there is no such device.
func TestIsRevokedOutOfRange(t *testing.T) {
	l := listOf(9, -1, 0, 7, 20000030)
	checkIsRevoked(t, l, 0, -1, true)
	checkIsRevoked(t, l, 0, 0, true)
	checkIsRevoked(t, l, 0, 7, true)
	checkIsRevoked(t, l, 0, 20000030, true)
	checkIsRevoked(t, l, 1, 10000030, true)
	checkIsRevoked(t, l, 3, -9999970, true)
	checkIsRevoked(t, l, -1, 30000030, true)
	checkIsRevoked(t, l, -1, 9999999, true)
	checkIsRevoked(t, l, 1, -10000000, true)
	checkIsRevoked(t, l, 0, 30, false)
	checkIsRevoked(t, l, 30, 2, false)
	checkIsRevoked(t, l, 1, 10000031, false)
}

func TestIsRevokedBeyondTheRangeOfInt(t *testing.T) {
	l := listOf(9, math.MinInt, -10000000, 20000030, math.MaxInt)
	checkIsRevoked(t, l, 2+1<<57, 30, true)
	checkIsRevoked(t, l, 2-1<<57, 30, true)
	checkIsRevoked(t, l, 2+1<<56, 30, false)
	checkIsRevoked(t, l, math.MinInt, 20000030, true)
	checkIsRevoked(t, l, math.MaxInt, 0, true)
	checkIsRevoked(t, l, math.MaxInt, 30000030, true)
	checkIsRevoked(t, l, math.MaxInt, math.MinInt+9999999, true)
	checkIsRevoked(t, l, 0, math.MinInt, true)
	checkIsRevoked(t, l, 1, math.MaxInt-9999999, true)
	checkIsRevoked(t, l, -1, math.MinInt+9999999, true)
	checkIsRevoked(t, l, 922337203685, 4775807, true)
	checkIsRevoked(t, l, 922337203685, 4775808, true)
	checkIsRevoked(t, l, 922337203685, 4775809, false)
	numbers := slices.Concat(anyInts(), hashedInts())
	for _, vendor := range numbers {
		for _, serial := range numbers {
			number := expectedNumber(vendor, serial)
			checkIsRevoked(t, listOf(9, number), vendor, serial, true)
			checkIsRevoked(t, listOf(9, number-1, number+1, number^1<<32), vendor, serial, false)
		}
	}
}

// Promise 11: a device is accepted up to the call that revokes it, and no longer, and no other device is refused with it.
func TestDeviceIsAcceptedUntilItIsRevoked(t *testing.T) {
	for _, master := range []int{1, 9, lastKey} {
		stores := attestedStores()
		l := listOf(master)
		for i := range stores {
			next := i * 29 % len(stores)
			checkChecked(t, l, attested(t, master, stores[next]), true)
			before := l
			l, _ = impl.RevokeDevice(l, stores[next].Vendor, stores[next].Serial)
			for j, s := range stores {
				a := attested(t, master, s)
				accepted := impl.CheckAttestation(before, a)
				checkChecked(t, l, a, accepted && j != next)
				checkIsRevoked(t, l, s.Vendor, s.Serial, !(accepted && j != next))
			}
		}
		if len(l.Revoked) != len(stores) {
			t.Errorf("%d of %d devices are revoked", len(l.Revoked), len(stores))
		}
	}
}

// What is revoked is the vendor and the serial, whatever seed a store has; another serial of the same seed is another device.
func TestRevokedDeviceWithAnotherSeed(t *testing.T) {
	l := listOf(9, 20000030)
	for _, seed := range []int{1, 77, 78, lastKey} {
		checkChecked(t, l, attested(t, 9, storeFrom(2, 30, seed)), false)
		checkChecked(t, l, attested(t, 9, storeFrom(2, 31, seed)), true)
		checkChecked(t, l, attested(t, 9, storeFrom(3, 30, seed)), true)
	}
}

func TestRevokedNumbersOfNoDevice(t *testing.T) {
	l := listOf(9, math.MinInt, -20000030, -1, 0, 30, 9999999, 11000001, 20000029, 20000031, 91000001, 100000030, math.MaxInt)
	for _, s := range attestedStores() {
		checkChecked(t, l, attested(t, 9, s), s.Vendor != 2 || s.Serial != 31)
	}
	checkChecked(t, checkRevoked(t, l, 2, 30, slices.Insert(slices.Clone(l.Revoked), 8, 20000030)...), attested(t, 9, storeFrom(2, 30, 77)), false)
}

func TestAttestationFunctionsLeaveTheirLists(t *testing.T) {
	a := attested(t, 9, storeFrom(2, 30, 77))
	for _, values := range append(validRevoked(), notAscending()...) {
		for _, master := range []int{9, 8, 0} {
			revoked, array := withSpare(66, values...)
			before := slices.Clone(array)
			l := listOf(master, revoked...)
			impl.IsValidList(l)
			impl.CheckAttestation(l, a)
			impl.IsRevoked(l, 2, 30)
			impl.RevokeDevice(l, 2, 30)
			impl.RevokeDevice(l, 0, 30)
			if !slices.Equal(array, before) || !slices.Equal(l.Revoked, values) || l.Master != master {
				t.Errorf("the list of %d and %v became %+v in %v", master, values, l, array)
			}
		}
	}
}

// The result has memory of its own, also where it is a copy.
func TestRevokeDeviceIsApartFromItsList(t *testing.T) {
	devices := [][2]int{{1, 0}, {2, 30}, {5, 4711}, {9, maxCounter}, {0, 30}, {2, -1}}
	for _, values := range append(validRevoked(), notAscending()...) {
		for _, device := range devices {
			for _, master := range []int{9, 0} {
				revoked, array := withSpare(66, values...)
				before := slices.Clone(array)
				got, _ := impl.RevokeDevice(listOf(master, revoked...), device[0], device[1])
				checkApart(t, "RevokeDevice", got.Revoked, 99, array, before, 55)
			}
		}
	}
}

// A second call with the same list would overwrite the first result, if both had written to the spare capacity.
func TestResultsOfTwoRevocationsAreApart(t *testing.T) {
	revoked, _ := withSpare(66, 10000005, 20000030)
	l := listOf(9, revoked...)
	first, _ := impl.RevokeDevice(l, 9, 1)
	second, _ := impl.RevokeDevice(l, 9, 2)
	again, _ := impl.RevokeDevice(first, 9, 3)
	third, _ := impl.RevokeDevice(first, 9, 4)
	if !slices.Equal(first.Revoked, []int{10000005, 20000030, 90000001}) || !slices.Equal(second.Revoked, []int{10000005, 20000030, 90000002}) {
		t.Errorf("the results are %v and %v", first, second)
	}
	if !slices.Equal(again.Revoked, []int{10000005, 20000030, 90000001, 90000003}) || !slices.Equal(third.Revoked, []int{10000005, 20000030, 90000001, 90000004}) {
		t.Errorf("the later results are %v and %v", again, third)
	}
	checkRevoked(t, l, 1, 0, 10000000, 10000005, 20000030)
}

func TestAttestationFunctionsIgnoreSpareCapacity(t *testing.T) {
	a := attested(t, 9, storeFrom(2, 30, 77))
	for _, filler := range []int{20000030, 20000031, 0, math.MaxInt} {
		revoked, _ := withSpare(filler, 10000005)
		l := listOf(9, revoked...)
		checkValidList(t, l, true)
		checkChecked(t, l, a, true)
		checkIsRevoked(t, l, 2, 30, false)
		checkIsRevoked(t, l, 1, 5, true)
		checkRevoked(t, l, 2, 30, 10000005, 20000030)
		checkNotRevoked(t, l, 1, 5)
	}
}

// Between the calls with the same list there are others, of which nothing may be left, least of all a revocation.
func TestAttestationFunctionsKeepNoState(t *testing.T) {
	a := impl.Attestation{Vendor: 2, Serial: 30, Key: 2071455693, Signature: 2139747378}
	for range 3 {
		checkVendorPrivate(t, 9, 2, 165570031)
		checkAttested(t, 9, storeFrom(2, 30, 77), a)
		checkChecked(t, listOf(9), a, true)
		checkChecked(t, listOf(9, 20000030), a, false)
		checkValidList(t, listOf(9), true)
		checkRevoked(t, listOf(9), 2, 30, 20000030)
		checkIsRevoked(t, listOf(9), 2, 30, false)
		for _, l := range append(validLists(), invalidLists()...) {
			impl.VendorPrivate(l.Master, 3)
			impl.Attest(l.Master, storeFrom(2, 30, 78))
			impl.IsValidList(l)
			impl.CheckAttestation(l, a)
			impl.RevokeDevice(l, 2, 30)
			impl.IsRevoked(l, 2, 30)
		}
	}
}

func TestAttestationFunctionsReturnForAllArguments(t *testing.T) {
	numbers := append(anyInts(), 2, 9, 10, maxCounter, maxCounter+1, lastKey, impl.Modulus)
	for _, a := range numbers {
		for _, b := range numbers {
			for _, revoked := range [][]int{nil, {a}, {b}, {a, b}, {b, a}, {a, b, 20000030}, {math.MinInt, a, math.MaxInt}} {
				checkAnyList(t, listOf(a, revoked...), b, a)
				checkAnyList(t, listOf(9, revoked...), a, b)
				checkAnyList(t, listOf(9, revoked...), 2, b)
			}
		}
	}
	for _, revoked := range [][]int{make([]int, 100000), slices.Repeat([]int{math.MinInt}, 5000), hashedInts(), slices.Sorted(slices.Values(hashedInts()))} {
		checkAnyList(t, listOf(9, revoked...), 2, 30)
		checkAnyList(t, listOf(0, revoked...), math.MaxInt, math.MinInt)
	}
}

// checkAnyList uses the vendor and the serial for a device and for the numbers of an attestation.
func checkAnyList(t *testing.T, l impl.VendorList, vendor int, serial int) {
	t.Helper()
	checkValidList(t, l, expectedValidList(l))
	contained := slices.Contains(l.Revoked, vendor*10000000+serial)
	checkIsRevoked(t, l, vendor, serial, contained)
	a := impl.Attestation{Vendor: vendor, Serial: serial, Key: serial}
	a.Signature = impl.SignMessage(impl.VendorPrivate(l.Master, vendor), []int{193, vendor, serial, serial})
	possible := expectedValidList(l) && isDevice(vendor, serial) && !contained
	checkChecked(t, l, a, possible)
	a.Signature++
	checkChecked(t, l, a, false)
	if !possible {
		checkNotRevoked(t, l, vendor, serial)
		return
	}
	want := append(slices.Clone(l.Revoked), vendor*10000000+serial)
	slices.Sort(want)
	checkRevoked(t, l, vendor, serial, want...)
}
