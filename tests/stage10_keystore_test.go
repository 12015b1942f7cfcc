package tests

import (
	"math"
	"math/big"
	"slices"
	"testing"

	"loop.example/g00581/impl"
)

const (
	maxCounter = 1000000
	maxVendor  = 9
)

func storeOf(seed int, counter int) impl.KeyStore {
	return impl.KeyStore{Vendor: 1, Serial: 2, Seed: seed, Counter: counter}
}

func validStores() []impl.KeyStore {
	list := []impl.KeyStore{}
	for vendor := 1; vendor <= maxVendor; vendor++ {
		list = append(list, impl.KeyStore{Vendor: vendor, Serial: vendor * 7, Seed: 77 + vendor, Counter: vendor * 1000})
	}
	for _, serial := range []int{0, 1, 2, 4711, maxCounter - 1, maxCounter} {
		list = append(list, impl.KeyStore{Vendor: 1, Serial: serial, Seed: 77, Counter: 5})
	}
	for _, seed := range []int{1, 2, 77, 78, 48271, 1000003, lastKey - 1, lastKey} {
		list = append(list, storeOf(seed, 0), storeOf(seed, 41))
	}
	for _, counter := range []int{0, 1, 2, 5, 127, 128, maxCounter - 2, maxCounter - 1, maxCounter} {
		list = append(list, storeOf(77, counter))
	}
	return append(list, impl.KeyStore{Vendor: maxVendor, Serial: maxCounter, Seed: lastKey, Counter: maxCounter}, impl.KeyStore{Vendor: 1, Serial: 0, Seed: 1, Counter: 0})
}

// beyondRange has numbers below 0 and above last; some are equal to a number in between modulo a power of two.
func beyondRange(last int) []int {
	list := []int{-1, -2, -last, math.MinInt, math.MinInt + 1, last + 1, last + 2, 2 * last, math.MaxInt}
	for _, modulus := range []int{1 << 8, 1 << 32, 1 << 40} {
		list = append(list, 1-modulus, 1+modulus<<20)
	}
	return list
}

// invalidStores have one field beyond its range, and then several of them.
func invalidStores() []impl.KeyStore {
	list := []impl.KeyStore{}
	for _, vendor := range append(beyondRange(maxVendor), 0) {
		list = append(list, impl.KeyStore{Vendor: vendor, Serial: 2, Seed: 77, Counter: 5})
	}
	for _, serial := range beyondRange(maxCounter) {
		list = append(list, impl.KeyStore{Vendor: 1, Serial: serial, Seed: 77, Counter: 5})
	}
	for _, seed := range notKeys() {
		list = append(list, storeOf(seed, 5))
	}
	for _, counter := range beyondRange(maxCounter) {
		list = append(list, storeOf(77, counter))
	}
	return append(list, impl.KeyStore{}, impl.KeyStore{Vendor: 10, Seed: 1}, impl.KeyStore{Vendor: -1, Serial: -1, Seed: -1, Counter: -1},
		impl.KeyStore{Vendor: 0, Serial: 2, Seed: 77, Counter: maxCounter}, impl.KeyStore{Vendor: 1, Serial: maxCounter + 1, Seed: 77, Counter: maxCounter}, storeOf(0, maxCounter), storeOf(impl.Modulus, maxCounter),
		impl.KeyStore{Vendor: math.MinInt, Serial: math.MinInt, Seed: math.MinInt, Counter: math.MinInt}, impl.KeyStore{Vendor: math.MaxInt, Serial: math.MaxInt, Seed: math.MaxInt, Counter: math.MaxInt})
}

func storeSites() []string {
	return []string{"", "bank.com", "shop.org", "Bank.com", "www.bank.com", "a.b", "a", "com", "localhost", ".", "\x00", "\xff", "\u00e9", "bank.com ", hostOfLength(60), hostOfLength(61), repeated("x", 3000)}
}

func someHandles() []int {
	return []int{0, 1, 2, 3, 4, 1000, maxCounter, -1, -2, -maxCounter, 151, 179, 181, impl.Modulus - 1, impl.Modulus, impl.Modulus + 3, math.MinInt, math.MinInt + 1, math.MaxInt, math.MaxInt - 1}
}

func expectedValidStore(s impl.KeyStore) bool {
	return s.Vendor >= 1 && s.Vendor <= 9 && s.Serial >= 0 && s.Serial <= 1000000 && isKey(s.Seed) && s.Counter >= 0 && s.Counter <= 1000000
}

func expectedSitePrivate(seed int, site string, handle int) int {
	return max(1, expectedKeyedHash(seed, 151, 179, expectedSiteHash(site), handle))
}

func expectedDevicePrivate(seed int) int {
	return max(1, expectedKeyedHash(seed, 151, 181))
}

func expectedStoreSignature(seed int, site string, handle int, message []int, counter int) int {
	return expectedSignature(expectedSitePrivate(seed, site, handle), slices.Concat(message, []int{counter}))
}

func checkValidStore(t *testing.T, s impl.KeyStore, want bool) {
	t.Helper()
	if got := impl.IsValidStore(s); got != want {
		t.Errorf("IsValidStore(%+v) = %v", s, got)
	}
}

func checkSiteKeys(t *testing.T, s impl.KeyStore, site string, handle int, private int, public int) {
	t.Helper()
	if got := impl.SitePrivate(s, site, handle); got != private {
		t.Errorf("SitePrivate(%+v, %q, %d) = %d, want %d", s, site, handle, got, private)
	}
	if got := impl.SitePublic(s, site, handle); got != public {
		t.Errorf("SitePublic(%+v, %q, %d) = %d, want %d", s, site, handle, got, public)
	}
}

func checkStoreSigned(t *testing.T, s impl.KeyStore, site string, handle int, message []int, want int) impl.KeyStore {
	t.Helper()
	next := s
	next.Counter++
	got, signature, ok := impl.SignWithStore(s, site, handle, message)
	if got != next || signature != want || !ok {
		t.Errorf("SignWithStore(%+v, %q, %d, %v) = %+v, %d, %v, want %+v, %d, true", s, site, handle, message, got, signature, ok, next, want)
	}
	return got
}

func checkStoreNotSigned(t *testing.T, s impl.KeyStore, site string, handle int, message []int) {
	t.Helper()
	if got, signature, ok := impl.SignWithStore(s, site, handle, message); got != s || signature != 0 || ok {
		t.Errorf("SignWithStore(%+v, %q, %d, %v) = %+v, %d, %v", s, site, handle, message, got, signature, ok)
	}
}

func checkDevicePublic(t *testing.T, s impl.KeyStore, want int) {
	t.Helper()
	if got := impl.DevicePublic(s); got != want {
		t.Errorf("DevicePublic(%+v) = %d, want %d", s, got, want)
	}
}

func checkDeviceSigned(t *testing.T, s impl.KeyStore, message []int, want int) {
	t.Helper()
	if got := impl.SignAsDevice(s, message); got != want {
		t.Errorf("SignAsDevice(%+v, %v) = %d, want %d", s, message, got, want)
	}
}

func checkCloned(t *testing.T, s impl.KeyStore) {
	t.Helper()
	if got := impl.CloneStore(s); got != s {
		t.Errorf("CloneStore(%+v) = %+v", s, got)
	}
}

func TestStoreLimits(t *testing.T) {
	if impl.MaxCounter != 1000000 || impl.MaxVendor != 9 {
		t.Errorf("MaxCounter is %d and MaxVendor is %d", impl.MaxCounter, impl.MaxVendor)
	}
}

func TestIsValidStore(t *testing.T) {
	for _, s := range validStores() {
		checkValidStore(t, s, true)
	}
	for _, s := range invalidStores() {
		checkValidStore(t, s, false)
	}
}

func TestIsValidStoreAtTheEndsOfTheRanges(t *testing.T) {
	for vendor := -3; vendor <= 13; vendor++ {
		checkValidStore(t, impl.KeyStore{Vendor: vendor, Serial: 2, Seed: 77, Counter: 5}, vendor >= 1 && vendor <= 9)
	}
	for n, want := range map[int]bool{-2: false, -1: false, 0: true, 1: true, 999999: true, 1000000: true, 1000001: false, 1000002: false} {
		checkValidStore(t, impl.KeyStore{Vendor: 1, Serial: n, Seed: 77, Counter: 5}, want)
		checkValidStore(t, impl.KeyStore{Vendor: 1, Serial: 2, Seed: 77, Counter: n}, want)
	}
	for seed, want := range map[int]bool{-1: false, 0: false, 1: true, 2: true, 2147483645: true, 2147483646: true, 2147483647: false, 2147483648: false} {
		checkValidStore(t, storeOf(seed, 5), want)
	}
}

func TestIsValidStoreFollowsItsDefinition(t *testing.T) {
	vendors := append(anyInts(), 2, 8, 9, 10)
	numbers := append(anyInts(), maxCounter-1, maxCounter, maxCounter+1)
	seeds := append(anyInts(), lastKey-1, lastKey, impl.Modulus)
	for _, vendor := range vendors {
		for _, serial := range numbers {
			for _, seed := range seeds {
				for _, counter := range numbers {
					s := impl.KeyStore{Vendor: vendor, Serial: serial, Seed: seed, Counter: counter}
					checkValidStore(t, s, expectedValidStore(s))
				}
			}
		}
	}
}

func TestSiteKeys(t *testing.T) {
	s := storeOf(77, 5)
	checkSiteKeys(t, s, "bank.com", 3, 641484426, 528021353)
	checkSiteKeys(t, s, "shop.org", 3, 1169610369, 917042369)
	checkSiteKeys(t, s, "bank.com", 4, 642484429, 1554525932)
	checkSiteKeys(t, s, "Bank.com", 3, 1848669440, 587070802)
	checkSiteKeys(t, s, "www.bank.com", 3, 380540126, 1624789355)
	checkSiteKeys(t, s, "", 0, 640858172, 362885577)
	checkSiteKeys(t, s, "bank.com", -1, 637484414, 716970331)
	checkSiteKeys(t, s, "bank.com", math.MinInt, 636484411, 1837949399)
	checkSiteKeys(t, s, "bank.com", math.MaxInt, 639484420, 622495842)
	checkSiteKeys(t, storeOf(78, 5), "bank.com", 3, 447434006, 843865747)
	checkSiteKeys(t, storeOf(1, 0), "a.b", 0, 987502853, 55704704)
	checkSiteKeys(t, storeOf(lastKey, maxCounter), "a.b", 1000000, 651224191, 377298975)
}

// The keys of a store that is not valid are what the definitions give.
func TestSiteKeysOfAnInvalidStore(t *testing.T) {
	checkSiteKeys(t, impl.KeyStore{}, "bank.com", 3, 550981237, 1977806779)
	checkSiteKeys(t, storeOf(impl.Modulus, 5), "bank.com", 3, 550981237, 1977806779)
	checkSiteKeys(t, storeOf(-1, 5), "bank.com", 3, 745031657, 1661962385)
	checkSiteKeys(t, impl.KeyStore{Vendor: 10, Serial: -1, Seed: 77, Counter: maxCounter + 1}, "bank.com", 3, 641484426, 528021353)
}

func TestSiteKeysFollowTheirDefinition(t *testing.T) {
	for _, s := range append(validStores(), invalidStores()...) {
		for _, site := range []string{"", "bank.com", "shop.org", "\xff"} {
			for _, handle := range []int{0, 3, -1, maxCounter, math.MinInt, math.MaxInt} {
				private := expectedSitePrivate(s.Seed, site, handle)
				checkSiteKeys(t, s, site, handle, private, expectedPublic(private))
			}
		}
	}
	for _, seed := range []int{77, lastKey, 0} {
		for _, site := range storeSites() {
			for _, handle := range someHandles() {
				s := storeOf(seed, 5)
				private := impl.DeriveKey(seed, []int{179, impl.SiteHash(site), handle})
				checkSiteKeys(t, s, site, handle, private, impl.PublicKey(private))
				checkPrivate(t, impl.SitePublic(s, site, handle), private)
			}
		}
	}
}

func TestSiteKeysDependOnTheSeedAlone(t *testing.T) {
	for _, s := range append(validStores(), invalidStores()...) {
		other := impl.KeyStore{Vendor: 3, Serial: 4, Seed: s.Seed, Counter: 6}
		checkSiteKeys(t, s, "bank.com", 3, impl.SitePrivate(other, "bank.com", 3), impl.SitePublic(other, "bank.com", 3))
	}
}

func TestSiteKeysDiffer(t *testing.T) {
	keys := map[int]string{}
	add := func(key int, source string) {
		if earlier, ok := keys[key]; ok {
			t.Errorf("%s and %s have the key %d", earlier, source, key)
		}
		keys[key] = source
	}
	for _, seed := range []int{1, 77, 78, lastKey} {
		s := storeOf(seed, 5)
		add(impl.DevicePublic(s), "the device with the seed "+impl.FormatInt(seed))
		for _, site := range storeSites() {
			for _, handle := range []int{0, 1, 2, 3, 1000, maxCounter, -1} {
				add(impl.SitePublic(s, site, handle), site+" with the seed and the handle "+formatLabels([]int{seed, handle}))
			}
		}
	}
}

func TestSitePrivateIsNeverZero(t *testing.T) {
	for _, site := range storeSites() {
		for _, handle := range []int{0, 3, -1, math.MinInt, math.MaxInt} {
			values := []int{151, 179, expectedSiteHash(site), handle}
			seed := keyOfHashZero(values)
			checkKeyedHash(t, 0, seed, values...)
			s := storeOf(seed, 5)
			checkSiteKeys(t, s, site, handle, 1, 48271)
			checkStoreSigned(t, s, site, handle, []int{9}, expectedSignature(1, []int{9, 6}))
		}
	}
}

func TestSignWithStore(t *testing.T) {
	s := checkStoreSigned(t, storeOf(77, 5), "bank.com", 3, []int{9}, 1629836551)
	checkStoreSigned(t, s, "bank.com", 3, []int{9}, 1630836554)
	checkStoreSigned(t, storeOf(77, 0), "bank.com", 3, nil, 1143168722)
	checkStoreSigned(t, storeOf(77, 0), "bank.com", 3, []int{}, 1143168722)
	checkStoreSigned(t, storeOf(77, maxCounter-1), "bank.com", 3, nil, 417789217)
	checkStoreSigned(t, storeOf(77, 0), "", -1, []int{1, 2}, 678127672)
	checkStoreSigned(t, storeOf(1, 0), "a.b", 0, []int{0}, 1738626231)
	checkStoreSigned(t, storeOf(lastKey, 41), "shop.org", math.MinInt, []int{math.MinInt, math.MaxInt}, 107790924)
}

func TestSignWithStoreFollowsItsDefinition(t *testing.T) {
	for _, s := range validStores() {
		for _, message := range signedMessages() {
			if s.Counter == maxCounter {
				checkStoreNotSigned(t, s, "bank.com", 3, message)
			} else {
				checkStoreSigned(t, s, "bank.com", 3, message, expectedStoreSignature(s.Seed, "bank.com", 3, message, s.Counter+1))
			}
		}
	}
	for _, site := range storeSites() {
		for _, handle := range someHandles() {
			for _, message := range [][]int{nil, {9}, {1, 2, 3}} {
				checkStoreSigned(t, storeOf(77, 5), site, handle, message, expectedStoreSignature(77, site, handle, message, 6))
			}
		}
	}
}

func TestStoreSignatureIsAccepted(t *testing.T) {
	for _, s := range validStores() {
		if s.Counter == maxCounter {
			continue
		}
		for _, message := range signedMessages() {
			next, signature, _ := impl.SignWithStore(s, "bank.com", 3, message)
			public := impl.SitePublic(s, "bank.com", 3)
			checkAccepted(t, true, public, slices.Concat(message, []int{s.Counter + 1}), signature)
			checkAccepted(t, true, impl.SitePublic(next, "bank.com", 3), slices.Concat(message, []int{next.Counter}), signature)
			checkAccepted(t, false, public, message, signature)
			checkAccepted(t, false, public, slices.Concat(message, []int{s.Counter}), signature)
			checkAccepted(t, false, public, slices.Concat(message, []int{s.Counter + 2}), signature)
			checkAccepted(t, false, public, slices.Concat(message, []int{s.Counter + 1, 0}), signature)
			checkAccepted(t, false, public, slices.Concat(message, []int{s.Counter, s.Counter + 1}), signature)
			checkAccepted(t, false, public, slices.Concat([]int{s.Counter + 1, 0}, message), signature)
		}
	}
}

func TestStoreSignatureIsAcceptedForItsKeyOnly(t *testing.T) {
	s := storeOf(77, 5)
	_, signature, _ := impl.SignWithStore(s, "bank.com", 3, []int{9})
	signed := []int{9, 6}
	for _, site := range storeSites() {
		for _, handle := range []int{0, 1, 2, 3, 4, -1, maxCounter} {
			for _, seed := range []int{1, 76, 77, 78, lastKey} {
				same := site == "bank.com" && handle == 3 && seed == 77
				checkAccepted(t, same, impl.SitePublic(storeOf(seed, 5), site, handle), signed, signature)
			}
		}
	}
	checkAccepted(t, false, impl.DevicePublic(s), signed, signature)
	checkAccepted(t, false, impl.PublicKey(77), signed, signature)
}

func TestStoreSignaturesInARow(t *testing.T) {
	s := storeOf(77, 0)
	signatures := []int{}
	for i := range 50 {
		before := s.Counter
		s = checkStoreSigned(t, s, "bank.com", 3, []int{9}, expectedStoreSignature(77, "bank.com", 3, []int{9}, i+1))
		if s.Counter <= before {
			t.Errorf("the counter %d follows %d", s.Counter, before)
		}
		_, signature, _ := impl.SignWithStore(storeOf(77, i), "bank.com", 3, []int{9})
		signatures = append(signatures, signature)
	}
	for i, signature := range signatures {
		for counter := range 60 {
			checkAccepted(t, counter == i+1, 528021353, []int{9, counter}, signature)
		}
	}
}

// The counter is that of the store, not that of a key: it goes on where the site, the handle or the message is another one.
func TestStoreCountsForAllItsKeys(t *testing.T) {
	s := storeOf(77, 5)
	counter := 5
	for _, site := range storeSites() {
		for _, handle := range []int{0, 3, -1} {
			for _, message := range [][]int{nil, {9}, {1, 2, 3}} {
				counter++
				s = checkStoreSigned(t, s, site, handle, message, expectedStoreSignature(77, site, handle, message, counter))
			}
		}
	}
	if s != storeOf(77, counter) {
		t.Errorf("the store is %+v after the counter %d", s, counter)
	}
}

func TestStoreSignsUpToTheLimit(t *testing.T) {
	s := storeOf(77, maxCounter-3)
	for counter := maxCounter - 2; counter <= maxCounter; counter++ {
		s = checkStoreSigned(t, s, "bank.com", 3, []int{9}, expectedStoreSignature(77, "bank.com", 3, []int{9}, counter))
		checkValidStore(t, s, true)
	}
	for range 3 {
		checkStoreNotSigned(t, s, "bank.com", 3, []int{9})
		s, _, _ = impl.SignWithStore(s, "bank.com", 3, []int{9})
	}
	if s != storeOf(77, maxCounter) {
		t.Errorf("the store at the limit became %+v", s)
	}
}

// A store signs exactly as often as its counter allows, and each signature has its own counter.
func TestStoreSignsFromTheFirstToTheLastCounter(t *testing.T) {
	s := impl.KeyStore{Vendor: 9, Serial: 0, Seed: 77}
	count := 0
	for {
		next, _, ok := impl.SignWithStore(s, "a", 0, nil)
		if !ok {
			break
		}
		if next.Counter != s.Counter+1 || count > maxCounter {
			t.Fatalf("after %d signatures, %+v follows %+v", count, next, s)
		}
		s = next
		count++
	}
	if count != maxCounter || s.Counter != maxCounter {
		t.Errorf("the store signed %d times up to the counter %d", count, s.Counter)
	}
}

func TestStoreAtTheLimitDoesNotSign(t *testing.T) {
	for _, s := range validStores() {
		s.Counter = maxCounter
		checkValidStore(t, s, true)
		for _, message := range signedMessages() {
			checkStoreNotSigned(t, s, "bank.com", 3, message)
		}
		for _, site := range storeSites() {
			for _, handle := range someHandles() {
				checkStoreNotSigned(t, s, site, handle, []int{9})
			}
		}
	}
}

func TestInvalidStoreDoesNotSign(t *testing.T) {
	for _, s := range invalidStores() {
		for _, message := range signedMessages() {
			checkStoreNotSigned(t, s, "bank.com", 3, message)
		}
		for _, site := range storeSites() {
			for _, handle := range []int{0, 3, -1, math.MinInt, math.MaxInt} {
				checkStoreNotSigned(t, s, site, handle, []int{9})
			}
		}
	}
}

// handleOfPrivate solves for the handle with which a site has the private key: the hash is linear in the handle.
func handleOfPrivate(seed int, site string, private int) int {
	atZero := expectedKeyedHash(seed, 151, 179, expectedSiteHash(site), 0)
	slope := new(big.Int).ModInverse(big.NewInt(1000003), big.NewInt(impl.Modulus))
	return int(reducedBig(slope.Mul(slope, big.NewInt(int64(private-atZero)))).Int64())
}

func TestStoreSignaturesThatAreZero(t *testing.T) {
	for _, message := range signedMessages() {
		signed := slices.Concat(message, []int{6})
		private := keyOfHashZero(slices.Concat([]int{139, len(signed)}, signed))
		handle := handleOfPrivate(77, "bank.com", private)
		checkSiteKeys(t, storeOf(77, 5), "bank.com", handle, private, expectedPublic(private))
		checkStoreSigned(t, storeOf(77, 5), "bank.com", handle, message, 0)
		checkStoreNotSigned(t, storeOf(77, maxCounter), "bank.com", handle, message)
	}
}

func TestDevicePublic(t *testing.T) {
	checkDevicePublic(t, storeOf(77, 5), 2071455693)
	checkDevicePublic(t, storeOf(78, 5), 2033069171)
	checkDevicePublic(t, storeOf(1, 5), 693864071)
	checkDevicePublic(t, storeOf(lastKey, 5), 770637115)
}

func TestSignAsDevice(t *testing.T) {
	checkDeviceSigned(t, storeOf(77, 5), nil, 1162902718)
	checkDeviceSigned(t, storeOf(77, 5), []int{}, 1162902718)
	checkDeviceSigned(t, storeOf(77, 5), []int{4}, 2132503126)
	checkDeviceSigned(t, storeOf(77, 5), []int{1, 2}, 1188410754)
	checkDeviceSigned(t, storeOf(78, 5), []int{4}, 548962834)
	checkDeviceSigned(t, storeOf(1, 5), []int{4}, 74997439)
	checkDeviceSigned(t, storeOf(lastKey, 5), []int{4}, 1094594376)
}

func TestDeviceKeyOfAnInvalidStore(t *testing.T) {
	checkDevicePublic(t, impl.KeyStore{}, 732250593)
	checkDevicePublic(t, storeOf(impl.Modulus, 5), 732250593)
	checkDevicePublic(t, storeOf(-1, 5), 770637115)
	checkDevicePublic(t, storeOf(math.MinInt, 5), 809023637)
	checkDevicePublic(t, storeOf(math.MaxInt, 5), 693864071)
	checkDevicePublic(t, impl.KeyStore{Vendor: 10, Serial: -1, Seed: 77, Counter: maxCounter + 1}, 2071455693)
	checkDeviceSigned(t, impl.KeyStore{}, []int{4}, 1658537731)
	checkDeviceSigned(t, storeOf(math.MinInt, 5), []int{4}, 530651021)
	checkDeviceSigned(t, impl.KeyStore{Vendor: 10, Serial: -1, Seed: 77, Counter: maxCounter + 1}, []int{4}, 2132503126)
}

func TestDeviceFunctionsFollowTheirDefinition(t *testing.T) {
	for _, s := range append(validStores(), invalidStores()...) {
		private := expectedDevicePrivate(s.Seed)
		checkDevicePublic(t, s, expectedPublic(private))
		checkDevicePublic(t, s, impl.PublicKey(impl.DeriveKey(s.Seed, []int{181})))
		for _, message := range signedMessages() {
			signature := expectedSignature(private, message)
			checkDeviceSigned(t, s, message, signature)
			checkAccepted(t, true, impl.DevicePublic(s), message, signature)
		}
	}
}

func TestDeviceKeyDependsOnTheSeedAlone(t *testing.T) {
	for _, s := range append(validStores(), invalidStores()...) {
		other := impl.KeyStore{Vendor: 3, Serial: 4, Seed: s.Seed, Counter: 6}
		checkDevicePublic(t, s, impl.DevicePublic(other))
		checkDeviceSigned(t, s, []int{4}, impl.SignAsDevice(other, []int{4}))
	}
}

func TestDeviceSignatureIsAcceptedForItsKeyAndMessageOnly(t *testing.T) {
	for _, signer := range []int{1, 77, 78, lastKey} {
		for i, signed := range signedMessages() {
			signature := impl.SignAsDevice(storeOf(signer, 5), signed)
			for _, seed := range []int{1, 77, 78, lastKey} {
				checkAccepted(t, seed == signer, impl.DevicePublic(storeOf(seed, 5)), signed, signature)
			}
			for j, message := range signedMessages() {
				checkAccepted(t, i == j, impl.DevicePublic(storeOf(signer, 5)), message, signature)
			}
			checkAccepted(t, false, impl.SitePublic(storeOf(signer, 5), "bank.com", 3), signed, signature)
			checkAccepted(t, false, impl.PublicKey(signer), signed, signature)
		}
	}
}

func TestDeviceKeyIsNeverZero(t *testing.T) {
	seed := keyOfHashZero([]int{151, 181})
	for _, n := range []int{seed, seed - impl.Modulus, seed + impl.Modulus} {
		checkKeyedHash(t, 0, n, 151, 181)
		checkDevicePublic(t, storeOf(n, 5), 48271)
		checkDeviceSigned(t, storeOf(n, 5), []int{4}, expectedSignature(1, []int{4}))
	}
}

func TestCloneStore(t *testing.T) {
	for _, s := range append(validStores(), invalidStores()...) {
		checkCloned(t, s)
	}
}

func TestCloneHasTheSameKeysAndCounter(t *testing.T) {
	for _, s := range append(validStores(), invalidStores()...) {
		clone := impl.CloneStore(s)
		checkSiteKeys(t, clone, "bank.com", 3, impl.SitePrivate(s, "bank.com", 3), impl.SitePublic(s, "bank.com", 3))
		checkDevicePublic(t, clone, impl.DevicePublic(s))
		checkDeviceSigned(t, clone, []int{4}, impl.SignAsDevice(s, []int{4}))
		next, signature, ok := impl.SignWithStore(s, "bank.com", 3, []int{9})
		cloneNext, cloneSignature, cloneOK := impl.SignWithStore(clone, "bank.com", 3, []int{9})
		if next != cloneNext || signature != cloneSignature || ok != cloneOK {
			t.Errorf("%+v signs %d and its clone signs %d", s, signature, cloneSignature)
		}
	}
}

func TestCloneAndStoreCountApart(t *testing.T) {
	s := storeOf(77, 5)
	clone := impl.CloneStore(s)
	for range 3 {
		s, _, _ = impl.SignWithStore(s, "bank.com", 3, []int{9})
	}
	if s.Counter != 8 || clone.Counter != 5 {
		t.Errorf("the store is at %d and its clone at %d", s.Counter, clone.Counter)
	}
	checkStoreSigned(t, clone, "bank.com", 3, []int{9}, 1629836551)
}

func TestStoreFunctionsLeaveTheirArguments(t *testing.T) {
	for _, values := range [][]int{{}, {9}, {-1, impl.Modulus, math.MinInt}} {
		for _, s := range []impl.KeyStore{storeOf(77, 5), storeOf(lastKey, 0), storeOf(77, maxCounter), storeOf(0, 5), {}} {
			message, array := withSpare(66, values...)
			before := slices.Clone(array)
			stores := []impl.KeyStore{s}
			impl.SignWithStore(stores[0], "bank.com", 3, message)
			impl.SignAsDevice(stores[0], message)
			impl.CloneStore(stores[0])
			if !slices.Equal(array, before) {
				t.Errorf("with the store %+v, %v became %v", s, before, array)
			}
			if stores[0] != s {
				t.Errorf("the store %+v became %+v", s, stores[0])
			}
		}
	}
}

func TestStoreFunctionsIgnoreSpareCapacity(t *testing.T) {
	message, array := withSpare(66, 9)
	for _, filler := range []int{66, 6, 0, -1} {
		for i := 1; i < len(array); i++ {
			array[i] = filler
		}
		checkStoreSigned(t, storeOf(77, 5), "bank.com", 3, message, 1629836551)
		checkDeviceSigned(t, storeOf(77, 5), message, expectedSignature(expectedDevicePrivate(77), []int{9}))
	}
}

// Between the two calls with the same store there are others, of which nothing may be left, least of all a counter.
func TestStoreFunctionsKeepNoState(t *testing.T) {
	for range 3 {
		checkStoreSigned(t, storeOf(77, 5), "bank.com", 3, []int{9}, 1629836551)
		checkStoreNotSigned(t, storeOf(77, maxCounter), "bank.com", 3, []int{9})
		checkSiteKeys(t, storeOf(77, 5), "bank.com", 3, 641484426, 528021353)
		checkDevicePublic(t, storeOf(77, 5), 2071455693)
		checkDeviceSigned(t, storeOf(77, 5), []int{4}, 2132503126)
		checkValidStore(t, storeOf(77, 5), true)
		for _, s := range append(validStores(), invalidStores()...) {
			impl.IsValidStore(s)
			impl.SitePublic(s, "shop.org", 4)
			impl.SignWithStore(s, "bank.com", 3, []int{9})
			impl.SignAsDevice(s, []int{s.Counter})
			impl.CloneStore(s)
		}
	}
}

func TestStoreFunctionsReturnForAllArguments(t *testing.T) {
	numbers := slices.Concat(anyInts(), []int{9, 10, maxCounter - 1, maxCounter, maxCounter + 1})
	for _, a := range numbers {
		for _, b := range numbers {
			checkAnyStore(t, impl.KeyStore{Vendor: a, Serial: b, Seed: b, Counter: a}, "bank.com", a, []int{b, a})
			checkAnyStore(t, impl.KeyStore{Vendor: 9, Serial: 1, Seed: a, Counter: b}, "", b, nil)
			checkAnyStore(t, impl.KeyStore{Vendor: a, Serial: b, Seed: 77, Counter: 0}, "\xff", math.MinInt, []int{a})
		}
	}
	for _, site := range slices.Concat(derivingLabels(), notHosts(), []string{repeated("a", 100000)}) {
		checkAnyStore(t, storeOf(77, 5), site, 3, []int{9})
		checkAnyStore(t, impl.KeyStore{}, site, math.MaxInt, nil)
	}
	for _, message := range [][]int{make([]int, 100000), slices.Repeat([]int{math.MinInt}, 5000), hashedInts()} {
		checkAnyStore(t, storeOf(77, 5), "bank.com", 3, message)
		checkAnyStore(t, impl.KeyStore{}, "bank.com", 3, message)
	}
}

func checkAnyStore(t *testing.T, s impl.KeyStore, site string, handle int, message []int) {
	t.Helper()
	checkValidStore(t, s, expectedValidStore(s))
	private := max(1, impl.KeyedHash(s.Seed, []int{151, 179, impl.SiteHash(site), handle}))
	checkSiteKeys(t, s, site, handle, private, impl.PublicKey(private))
	if expectedValidStore(s) && s.Counter < maxCounter {
		checkStoreSigned(t, s, site, handle, message, impl.SignMessage(private, slices.Concat(message, []int{s.Counter + 1})))
	} else {
		checkStoreNotSigned(t, s, site, handle, message)
	}
	device := impl.DeriveKey(s.Seed, []int{181})
	checkDevicePublic(t, s, impl.PublicKey(device))
	checkDeviceSigned(t, s, message, impl.SignMessage(device, message))
	checkCloned(t, s)
}
