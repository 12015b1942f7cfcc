package tests

import (
	"bytes"
	"encoding/binary"
	"math"
	"slices"
	"testing"

	"loop.example/g00581/impl"
)

func sealedOf(epoch int, version int, mac int, data ...byte) impl.SealedBundle {
	return impl.SealedBundle{Epoch: epoch, Version: version, Data: data, MAC: mac}
}

// varints are those of encoding/binary, which the program does not use.
func varints(numbers ...int) []byte {
	list := []byte{}
	for _, n := range numbers {
		list = binary.AppendUvarint(list, uint64(n))
	}
	return list
}

func entryNumbers(e impl.Entry) []int {
	if e.Deleted {
		return []int{e.Site, e.Handle, e.Version, 1}
	}
	return []int{e.Site, e.Handle, e.Version, 0}
}

// bundleNumbers are also those of a bundle that is not valid.
func bundleNumbers(b impl.Bundle) []int {
	numbers := []int{len(b.Entries)}
	for _, e := range b.Entries {
		numbers = append(numbers, entryNumbers(e)...)
	}
	return numbers
}

// bundleBytes is what EncodeBundle would return if it took every bundle.
func bundleBytes(b impl.Bundle) []byte {
	return varints(bundleNumbers(b)...)
}

func withNumber(numbers []int, place int, n int) []int {
	list := slices.Clone(numbers)
	list[place] = n
	return list
}

// longerForm has the number at the place in so many bytes more than its varint.
func longerForm(numbers []int, place int, extra int) []byte {
	longer := varints(numbers[place])
	for range extra {
		longer[len(longer)-1] |= 128
		longer = append(longer, 0)
	}
	return slices.Concat(varints(numbers[:place]...), longer, varints(numbers[place+1:]...))
}

// expectedDecoded splits all of the bytes into varints before it looks at what they mean.
func expectedDecoded(d []byte) (impl.Bundle, bool) {
	numbers := []int{}
	for len(d) > 0 {
		n, length := binary.Uvarint(d)
		if length <= 0 || len(binary.AppendUvarint(nil, n)) != length {
			return impl.Bundle{}, false
		}
		numbers = append(numbers, int(n))
		d = d[length:]
	}
	if len(numbers)%4 != 1 || numbers[0] != len(numbers)/4 {
		return impl.Bundle{}, false
	}
	b := impl.Bundle{}
	for i := 1; i < len(numbers); i += 4 {
		if numbers[i+3] != 0 && numbers[i+3] != 1 {
			return impl.Bundle{}, false
		}
		b.Entries = append(b.Entries, entryOf(numbers[i], numbers[i+1], numbers[i+2], numbers[i+3] == 1))
	}
	if !expectedBundle(b) {
		return impl.Bundle{}, false
	}
	return b, true
}

func expectedDataKey(key int, epoch int, version int) int {
	return max(1, expectedKeyedHash(key, 151, 223, epoch, version))
}

func expectedBundleMAC(key int, s impl.SealedBundle) int {
	values := []int{227, s.Epoch, s.Version, len(s.Data)}
	for _, c := range s.Data {
		values = append(values, int(c))
	}
	return expectedKeyedHash(key, values...)
}

// sealedBytes is the sealed bundle of any key, epoch, version and bytes: nothing but these can be the reason that it is not opened.
func sealedBytes(key int, epoch int, version int, plain []byte) impl.SealedBundle {
	s := impl.SealedBundle{Epoch: epoch, Version: version}
	dataKey := expectedDataKey(key, epoch, version)
	for i, c := range plain {
		s.Data = append(s.Data, c+byte(expectedKeyedHash(dataKey, i)))
	}
	return withRightMAC(key, s)
}

func withRightMAC(key int, s impl.SealedBundle) impl.SealedBundle {
	s.MAC = expectedBundleMAC(key, s)
	return s
}

func expectedSealed(key int, epoch int, version int, b impl.Bundle) impl.SealedBundle {
	return sealedBytes(key, epoch, version, bundleBytes(b))
}

func cloneSealed(s impl.SealedBundle) impl.SealedBundle {
	s.Data = slices.Clone(s.Data)
	return s
}

func sameSealed(a impl.SealedBundle, b impl.SealedBundle) bool {
	return a.Epoch == b.Epoch && a.Version == b.Version && bytes.Equal(a.Data, b.Data) && a.MAC == b.MAC
}

func isSealable(n int) bool {
	return 0 <= n && n <= maxVersion
}

// sealingNumbers are epochs and versions, with the least and the greatest ones.
func sealingNumbers() []int {
	return []int{0, 1, 2, 3, 255, 1000, maxVersion - 1, maxVersion}
}

// notSealingNumbers are no epochs and no versions.
func notSealingNumbers() []int {
	return append(beyondRange(maxVersion), -maxVersion-1, impl.Modulus, -impl.Modulus, impl.Modulus+3, 3-impl.Modulus)
}

// someBundles are few valid bundles, but each of another shape.
func someBundles() []impl.Bundle {
	return []impl.Bundle{
		{}, bundleOf(), bundleOf(active(5, 1, 2)), bundleOf(deleted(5, 1, 2)), bundleOf(active(0, 0, 1)), bundleOf(deleted(lastSite, maxCounter, maxVersion)),
		bundleOf(deleted(0, 0, maxVersion), active(127, 128, 300), deleted(lastSite, maxCounter, 1)), bundleOfSize(3), bundleOfSites(lastSite-maxEntries+1, maxEntries), bundleOfHandles(maxCounter-maxEntries+1, maxEntries), bundleOfSize(maxEntries),
	}
}

// greatestBundle has more bytes than any other.
func greatestBundle() impl.Bundle {
	b := bundleOf()
	for i := range maxEntries {
		b.Entries = append(b.Entries, deleted(lastSite-i/10, maxCounter-i, maxVersion))
	}
	slices.Reverse(b.Entries)
	return b
}

func checkEncoded(t *testing.T, b impl.Bundle, want ...byte) []byte {
	t.Helper()
	got := impl.EncodeBundle(b)
	if !bytes.Equal(got, want) {
		t.Errorf("EncodeBundle(%+v) = %v, want %v", b, got, want)
	}
	return got
}

// checkDecoded also expects that no other bundle than the one that has these bytes is returned.
func checkDecoded(t *testing.T, d []byte, want impl.Bundle) impl.Bundle {
	t.Helper()
	got, ok := impl.DecodeBundle(d)
	if !ok || !sameBundle(got, want) {
		t.Errorf("DecodeBundle(%v) = %+v, %v, want %+v, true", d, got, ok, want)
	}
	checkBundle(t, got, true)
	checkEncoded(t, got, d...)
	return got
}

func checkNotDecoded(t *testing.T, d []byte) {
	t.Helper()
	if got, ok := impl.DecodeBundle(d); ok || len(got.Entries) > 0 {
		t.Errorf("DecodeBundle(%v) = %+v, %v, want the zero Bundle, false", d, got, ok)
	}
}

func checkDecodedAsExpected(t *testing.T, d []byte) bool {
	t.Helper()
	want, ok := expectedDecoded(d)
	if ok {
		checkDecoded(t, d, want)
	} else {
		checkNotDecoded(t, d)
	}
	return ok
}

func checkBundleSealed(t *testing.T, key int, b impl.Bundle, want impl.SealedBundle) impl.SealedBundle {
	t.Helper()
	got, ok := impl.SealBundle(key, want.Epoch, want.Version, b)
	if !ok || !sameSealed(got, want) {
		t.Errorf("SealBundle(%d, %d, %d, %+v) = %+v, %v, want %+v, true", key, want.Epoch, want.Version, b, got, ok, want)
	}
	return got
}

func checkBundleNotSealed(t *testing.T, key int, epoch int, version int, b impl.Bundle) {
	t.Helper()
	if got, ok := impl.SealBundle(key, epoch, version, b); ok || !sameSealed(got, impl.SealedBundle{}) {
		t.Errorf("SealBundle(%d, %d, %d, %+v) = %+v, %v, want the zero SealedBundle, false", key, epoch, version, b, got, ok)
	}
}

func checkBundleMAC(t *testing.T, key int, s impl.SealedBundle, want int) {
	t.Helper()
	if got := impl.BundleMAC(key, s); got != want {
		t.Errorf("BundleMAC(%d, %+v) = %d, want %d", key, s, got, want)
	}
}

func checkBundleOpened(t *testing.T, key int, s impl.SealedBundle, want impl.Bundle) impl.Bundle {
	t.Helper()
	got, ok := impl.OpenBundle(key, s)
	if !ok || !sameBundle(got, want) {
		t.Errorf("OpenBundle(%d, %+v) = %+v, %v, want %+v, true", key, s, got, ok, want)
	}
	return got
}

func checkBundleNotOpened(t *testing.T, key int, s impl.SealedBundle) {
	t.Helper()
	if got, ok := impl.OpenBundle(key, s); ok || len(got.Entries) > 0 {
		t.Errorf("OpenBundle(%d, %+v) = %+v, %v, want the zero Bundle, false", key, s, got, ok)
	}
}

func checkFresher(t *testing.T, a impl.SealedBundle, b impl.SealedBundle, want bool) {
	t.Helper()
	if got := impl.IsFresher(a, b); got != want {
		t.Errorf("IsFresher(%+v, %+v) = %v", a, b, got)
	}
}

// checkEqualSealed asks in both orders.
func checkEqualSealed(t *testing.T, a impl.SealedBundle, b impl.SealedBundle, want bool) {
	t.Helper()
	if got := impl.EqualSealed(a, b); got != want {
		t.Errorf("EqualSealed(%+v, %+v) = %v", a, b, got)
	}
	if got := impl.EqualSealed(b, a); got != want {
		t.Errorf("EqualSealed(%+v, %+v) = %v", b, a, got)
	}
}

// encodedBundles are bundles with the bytes that they have, written out.
func encodedBundles() map[string]impl.Bundle {
	return map[string]impl.Bundle{
		"\x00":                             bundleOf(),
		"\x01\x05\x01\x02\x01":             bundleOf(deleted(5, 1, 2)),
		"\x01\x05\x01\x02\x00":             bundleOf(active(5, 1, 2)),
		"\x01\x00\x00\x01\x00":             bundleOf(active(0, 0, 1)),
		"\x01\x7f\x7f\x7f\x01":             bundleOf(deleted(127, 127, 127)),
		"\x01\x80\x01\x80\x01\x80\x01\x01": bundleOf(deleted(128, 128, 128)),
		"\x01\xfe\xff\xff\xff\x07\xc0\x84\x3d\xc0\x84\x3d\x00":                                         bundleOf(active(lastSite, maxCounter, maxVersion)),
		"\x02\x05\x03\x01\x00\x05\x04\x07\x01":                                                         bundleOf(active(5, 3, 1), deleted(5, 4, 7)),
		"\x03\x00\x00\x01\x00\xac\x02\xc0\x84\x3d\xc0\x84\x3d\x01\xfe\xff\xff\xff\x07\x05\x80\x01\x00": bundleOf(active(0, 0, 1), deleted(300, maxCounter, maxVersion), active(lastSite, 5, 128)),
	}
}

func TestEncodeBundle(t *testing.T) {
	for d, b := range encodedBundles() {
		checkEncoded(t, b, []byte(d)...)
		checkDecoded(t, []byte(d), b)
	}
	checkEncoded(t, impl.Bundle{}, 0)
	checkEncoded(t, impl.Bundle{Entries: []impl.Entry{}}, 0)
}

func TestEncodeBundleFollowsItsDefinition(t *testing.T) {
	for _, b := range append(validBundles(), someBundles()...) {
		d := checkEncoded(t, b, bundleBytes(b)...)
		checkDecoded(t, d, b)
	}
}

// An entry has four bytes at least and twelve at most.
func TestEncodeBundleOfEverySize(t *testing.T) {
	for size := range 60 {
		b := bundleOfSize(size)
		if size > maxEntries {
			checkEncoded(t, b)
			checkNotDecoded(t, bundleBytes(b))
			continue
		}
		if d := checkEncoded(t, b, bundleBytes(b)...); int(d[0]) != size || len(d) < 1+4*size {
			t.Errorf("the bytes of %d entries are %v", size, d)
		}
	}
	if d := checkEncoded(t, greatestBundle(), bundleBytes(greatestBundle())...); len(d) != 1+12*maxEntries {
		t.Errorf("the greatest bundle has %d bytes", len(d))
	}
	if d := impl.EncodeBundle(bundleOfHandles(0, maxEntries)); len(d) != 1+4*maxEntries {
		t.Errorf("a bundle of small numbers has %d bytes", len(d))
	}
}

func TestEncodeBundleThatIsNotValid(t *testing.T) {
	for _, b := range invalidBundles() {
		checkEncoded(t, b)
	}
}

func TestEncodeBundleAtTheEndsOfTheRanges(t *testing.T) {
	for _, deletion := range []bool{false, true} {
		for _, site := range []int{-1, 0, 1, lastSite - 1, lastSite, lastSite + 1} {
			for _, handle := range []int{-1, 0, 1, maxCounter - 1, maxCounter, maxCounter + 1} {
				for _, version := range []int{-1, 0, 1, 2, maxVersion - 1, maxVersion, maxVersion + 1} {
					b := bundleOf(entryOf(site, handle, version, deletion))
					if site < 0 || handle < 0 || version < 0 || !expectedBundle(b) {
						checkEncoded(t, b)
						continue
					}
					checkDecoded(t, checkEncoded(t, b, bundleBytes(b)...), b)
				}
			}
		}
	}
}

// Two bundles never have the same bytes, but those that are not valid have none.
func TestEncodeBundleTellsBundlesApart(t *testing.T) {
	seen := map[string]impl.Bundle{}
	for _, b := range slices.Concat(smallBundles(), validBundles(), someBundles()) {
		d := string(impl.EncodeBundle(b))
		if other, ok := seen[d]; ok && !sameBundle(b, other) {
			t.Errorf("%+v and %+v have the bytes %v", b, other, []byte(d))
		}
		seen[d] = b
	}
}

// The bytes of the bundle without entries are not no bytes: these are what EncodeBundle returns where there is no valid bundle.
func TestDecodeBundleOfNoBytes(t *testing.T) {
	checkNotDecoded(t, nil)
	checkNotDecoded(t, []byte{})
	checkNotDecoded(t, make([]byte, 0, 100))
	checkDecoded(t, []byte{0}, bundleOf())
	checkDecoded(t, make([]byte, 1, 100), impl.Bundle{})
	for _, b := range invalidBundles() {
		checkNotDecoded(t, impl.EncodeBundle(b))
	}
}

func TestDecodeBundleThatEndsTooEarly(t *testing.T) {
	for _, b := range append(someBundles(), greatestBundle()) {
		d := bundleBytes(b)
		for end := range d {
			checkNotDecoded(t, d[:end])
			checkNotDecoded(t, slices.Clip(d[:end]))
		}
		for start := 1; start < len(d); start++ {
			checkDecodedAsExpected(t, d[start:])
		}
	}
}

func TestDecodeBundleWithMoreBytes(t *testing.T) {
	for _, b := range append(someBundles(), greatestBundle()) {
		d := bundleBytes(b)
		for _, c := range allBytes() {
			checkNotDecoded(t, append(slices.Clone(d), c))
			checkNotDecoded(t, append(slices.Clone(d), 0, c))
		}
		checkNotDecoded(t, slices.Concat(d, d))
		checkNotDecoded(t, slices.Concat(d, []byte{5, 1, 2, 0}))
		checkNotDecoded(t, append(slices.Clone(d), make([]byte, 1000)...))
	}
}

func TestDecodeBundleOfLongerForms(t *testing.T) {
	for _, b := range append(someBundles(), greatestBundle()) {
		numbers := bundleNumbers(b)
		for place := range numbers {
			for _, extra := range []int{1, 2, 3, 5, 8, 9, 20} {
				checkNotDecoded(t, longerForm(numbers, place, extra))
			}
		}
	}
	checkNotDecoded(t, []byte{128, 0})
	checkNotDecoded(t, []byte{129, 0, 5, 1, 2, 0})
	checkNotDecoded(t, []byte{1, 5, 1, 2, 128, 0})
	checkNotDecoded(t, []byte{1, 5, 1, 2, 129, 0})
}

func TestDecodeBundleWithAnotherCount(t *testing.T) {
	for size := range maxEntries + 3 {
		numbers := bundleNumbers(bundleOfSize(size))
		for count := range 60 {
			if d := varints(withNumber(numbers, 0, count)...); count == size && size <= maxEntries {
				checkDecoded(t, d, bundleOfSize(size))
			} else {
				checkNotDecoded(t, d)
			}
		}
		for _, count := range []int{size + 64, size + 128, size + 256, 1<<32 + size, 1<<40 - 1, impl.MaxValue, impl.MaxValue + 1, 1<<61 + size, 1<<62 + size, math.MaxInt, -1, math.MinInt, math.MinInt + size} {
			checkNotDecoded(t, varints(withNumber(numbers, 0, count)...))
		}
	}
	for _, size := range []int{21, 22, 24, 25, 26, 50, 100, 127, 128, 1000} {
		checkNotDecoded(t, bundleBytes(bundleOfSites(0, size)))
		checkNotDecoded(t, varints(withNumber(bundleNumbers(bundleOfSites(0, size)), 0, maxEntries)...))
	}
}

func TestDecodeBundleWithAnotherDeleted(t *testing.T) {
	for _, size := range []int{1, 2, 3, maxEntries} {
		b := bundleOfSize(size)
		for i, e := range b.Entries {
			for _, n := range []int{2, 3, 4, 127, 128, 129, 255, 256, 257, 1 << 32, 1<<32 + 1, impl.MaxValue, math.MaxInt, -1, math.MinInt} {
				checkNotDecoded(t, varints(withNumber(bundleNumbers(b), 4*i+4, n)...))
			}
			checkDecoded(t, varints(withNumber(bundleNumbers(b), 4*i+4, 0)...), withEntryAt(b, i, active(e.Site, e.Handle, e.Version)))
			checkDecoded(t, varints(withNumber(bundleNumbers(b), 4*i+4, 1)...), withEntryAt(b, i, deleted(e.Site, e.Handle, e.Version)))
		}
	}
}

func TestDecodeBundleOfWrongOrder(t *testing.T) {
	for _, b := range []impl.Bundle{bundleOfSize(2), bundleOfSize(4), bundleOfSize(maxEntries), bundleOfSites(20, 3), bundleOfHandles(20, 3)} {
		for _, wrong := range bundlesOfWrongOrder(b) {
			checkNotDecoded(t, bundleBytes(wrong))
		}
	}
	checkNotDecoded(t, []byte{2, 5, 1, 2, 0, 5, 1, 2, 0})
	checkNotDecoded(t, []byte{2, 5, 1, 2, 0, 5, 1, 3, 1})
	checkNotDecoded(t, []byte{2, 5, 2, 2, 0, 5, 1, 2, 0})
	checkNotDecoded(t, []byte{2, 6, 1, 2, 0, 5, 2, 2, 0})
	checkDecoded(t, []byte{2, 5, 1, 2, 0, 5, 2, 2, 0}, bundleOf(active(5, 1, 2), active(5, 2, 2)))
	checkDecoded(t, []byte{2, 5, 2, 2, 0, 6, 1, 2, 0}, bundleOf(active(5, 2, 2), active(6, 1, 2)))
}

// A negative number becomes a varint of ten bytes, as if it were a great one.
func TestDecodeBundleAtTheEndsOfTheRanges(t *testing.T) {
	for _, site := range []int{0, 1, lastSite - 1, lastSite, lastSite + 1, lastSite + 2, 1 << 32, impl.MaxValue, impl.MaxValue + 1, -1} {
		for _, handle := range []int{0, 1, maxCounter - 1, maxCounter, maxCounter + 1, maxCounter + 2, 1 << 32, impl.MaxValue, math.MaxInt, -1} {
			for _, version := range []int{0, 1, 2, maxVersion - 1, maxVersion, maxVersion + 1, maxVersion + 2, 1<<32 + 1, impl.MaxValue, math.MinInt, -1} {
				for _, b := range []impl.Bundle{bundleOf(active(site, handle, version)), bundleOf(deleted(site, handle, version))} {
					if ok := checkDecodedAsExpected(t, bundleBytes(b)); ok != expectedBundle(b) {
						t.Errorf("the bytes of %+v are taken for those of a bundle: %v", b, ok)
					}
				}
			}
		}
	}
}

func TestDecodeBundleOfOneEntryOutOfRange(t *testing.T) {
	for _, size := range []int{1, 2, 3, maxEntries} {
		b := bundleOfSize(size)
		numbers := bundleNumbers(b)
		checkNotDecoded(t, varints(withNumber(numbers, 4*size-3, lastSite+1)...))
		checkDecoded(t, varints(withNumber(numbers, 4*size-3, lastSite)...), withEntryAt(b, size-1, entryOf(lastSite, b.Entries[size-1].Handle, b.Entries[size-1].Version, b.Entries[size-1].Deleted)))
		for i, e := range b.Entries {
			checkNotDecoded(t, varints(withNumber(numbers, 4*i+2, maxCounter+1)...))
			checkNotDecoded(t, varints(withNumber(numbers, 4*i+3, 0)...))
			checkNotDecoded(t, varints(withNumber(numbers, 4*i+3, maxVersion+1)...))
			checkDecoded(t, varints(withNumber(numbers, 4*i+3, 1)...), withEntryAt(b, i, entryOf(e.Site, e.Handle, 1, e.Deleted)))
			checkDecoded(t, varints(withNumber(numbers, 4*i+3, maxVersion)...), withEntryAt(b, i, entryOf(e.Site, e.Handle, maxVersion, e.Deleted)))
		}
	}
}

func TestDecodeBundleOfAllShortBytes(t *testing.T) {
	for _, first := range allBytes() {
		checkDecodedAsExpected(t, []byte{first})
		for _, second := range allBytes() {
			checkDecodedAsExpected(t, []byte{first, second})
		}
	}
	decoded := 0
	few := []byte{0, 1, 2, 3, 127, 128, 129, 255}
	for _, first := range few {
		for _, second := range few {
			for _, third := range few {
				for _, fourth := range few {
					for _, fifth := range few {
						if checkDecodedAsExpected(t, []byte{first, second, third, fourth, fifth}) {
							decoded++
						}
					}
				}
			}
		}
	}
	if want := 5 * 5 * 4 * 2; decoded != want {
		t.Errorf("%d of the bytes are those of bundles, want %d", decoded, want)
	}
}

// The bytes of bundles have some of their bytes changed, left out, doubled and exchanged.
func TestDecodeBundleOfChangedBytes(t *testing.T) {
	counts := map[bool]int{}
	draw := 1
	below := func(n int) int {
		draw = (draw*48271 + 11) % impl.Modulus
		return draw / 7 % n
	}
	bundles := append(someBundles(), greatestBundle(), bundleOfSites(0, 5), bundleOfHandles(0, 5))
	for range 40000 {
		d := bundleBytes(bundles[below(len(bundles))])
		for range 1 + below(2) {
			place := below(len(d))
			switch below(5) {
			case 0:
				d[place] += byte(1 + below(255))
			case 1:
				d[place] = byte(below(3))
			case 2:
				if len(d) > 1 {
					d = slices.Delete(d, place, place+1)
				}
			case 3:
				d = slices.Insert(d, place, d[place])
			default:
				other := below(len(d))
				d[place], d[other] = d[other], d[place]
			}
		}
		counts[checkDecodedAsExpected(t, d)]++
	}
	if counts[true] < 3000 || counts[false] < 3000 {
		t.Errorf("the counts are %v", counts)
	}
}

func TestSealBundle(t *testing.T) {
	one := bundleOf(deleted(5, 1, 2))
	cases := []struct {
		key    int
		bundle impl.Bundle
		want   impl.SealedBundle
	}{
		{77, one, sealedOf(3, 4, 68347243, 202, 17, 80, 148, 214)},
		{78, one, sealedOf(3, 4, 1004979546, 129, 200, 7, 75, 141)},
		{77, one, sealedOf(3, 5, 1405944299, 174, 245, 52, 120, 186)},
		{77, one, sealedOf(4, 4, 1734444155, 109, 180, 243, 55, 121)},
		{77, one, sealedOf(4, 3, 744230717, 137, 208, 15, 83, 149)},
		{77, bundleOf(active(5, 1, 2)), sealedOf(3, 4, 67347240, 202, 17, 80, 148, 213)},
		{77, impl.Bundle{}, sealedOf(3, 4, 1437630707, 201)},
		{77, bundleOf(), sealedOf(3, 4, 1437630707, 201)},
		{1, bundleOf(), sealedOf(0, 0, 919085856, 23)},
		{lastKey, bundleOf(), sealedOf(maxVersion, maxVersion, 1184350086, 226)},
		{1, bundleOf(active(0, 0, 1)), sealedOf(maxVersion, 0, 1209121441, 90, 156, 223, 35, 101)},
		{lastKey, bundleOf(deleted(lastSite, maxCounter, maxVersion)), sealedOf(0, maxVersion, 1141727007, 161, 225, 37, 104, 171, 246, 242, 249, 245, 187, 194, 190, 197)},
		{48271, bundleOf(active(5, 3, 1), deleted(5, 4, 7), active(300, 0, 128)), sealedOf(1, maxVersion-1, 1244338901, 248, 61, 126, 191, 1, 73, 139, 209, 14, 252, 149, 214, 153, 93, 159)},
	}
	for _, c := range cases {
		s := checkBundleSealed(t, c.key, c.bundle, c.want)
		checkBundleMAC(t, c.key, s, c.want.MAC)
		checkBundleOpened(t, c.key, s, c.bundle)
		checkBundleOpened(t, c.key, c.want, c.bundle)
	}
}

func TestSealBundleFollowsItsDefinition(t *testing.T) {
	for _, key := range boxKeys() {
		for _, epoch := range sealingNumbers() {
			for _, version := range sealingNumbers() {
				for _, b := range []impl.Bundle{{}, bundleOf(deleted(5, 1, 2)), bundleOfSize(3)} {
					s := checkBundleSealed(t, key, b, expectedSealed(key, epoch, version, b))
					checkBundleOpened(t, key, s, b)
				}
			}
		}
	}
}

func TestSealBundleOfEveryBundle(t *testing.T) {
	for _, b := range append(validBundles(), greatestBundle()) {
		s := checkBundleSealed(t, 77, b, expectedSealed(77, 3, 4, b))
		checkBundleOpened(t, 77, s, b)
	}
}

func TestSealBundleWithEveryKey(t *testing.T) {
	b := bundleOf(deleted(5, 1, 2))
	for _, key := range someKeys() {
		s, ok := impl.SealBundle(key, 3, 4, b)
		if !ok || s.Epoch != 3 || s.Version != 4 || len(s.Data) != 5 || s.MAC != expectedBundleMAC(key, s) {
			t.Errorf("SealBundle with %d = %+v, %v", key, s, ok)
		}
		checkBundleOpened(t, key, s, b)
	}
}

func TestSealBundleUsesTheFunctionsOfOtherChapters(t *testing.T) {
	for _, key := range boxKeys() {
		for _, b := range someBundles() {
			s, ok := impl.SealBundle(key, 600, 7, b)
			data := impl.Encrypt(impl.DeriveKey(key, []int{223, 600, 7}), impl.EncodeBundle(b))
			if !ok || !bytes.Equal(s.Data, data) || s.MAC != impl.BundleMAC(key, s) || s.MAC != impl.KeyedHash(key, append([]int{227, 600, 7}, impl.BytesToInts(data)...)) {
				t.Errorf("SealBundle with %d of %+v = %+v, %v", key, b, s, ok)
			}
		}
	}
}

// Where the hash is 0, the bundle is encrypted with the key 1.
func TestSealBundleWithADerivedHashOfZero(t *testing.T) {
	for _, epoch := range sealingNumbers() {
		for _, version := range sealingNumbers() {
			key := keyOfHashZero([]int{151, 223, epoch, version})
			b := bundleOfSize(2)
			s := checkBundleSealed(t, key, b, expectedSealed(key, epoch, version, b))
			if !bytes.Equal(s.Data, impl.Encrypt(1, bundleBytes(b))) {
				t.Errorf("SealBundle with %d = %+v", key, s)
			}
			checkBundleOpened(t, key, s, b)
		}
	}
}

// The MAC of each of these sealed bundles is right, so that only an epoch or a version can be wrong.
func TestEpochsAndVersionsAtTheEndsOfTheRanges(t *testing.T) {
	numbers := []int{-1, 0, 1, maxVersion - 1, maxVersion, maxVersion + 1, -2, maxVersion + 2, math.MinInt, math.MaxInt}
	for _, key := range []int{1, 77, lastKey} {
		for _, epoch := range numbers {
			for _, version := range numbers {
				for _, b := range []impl.Bundle{{}, bundleOfSize(2), bundleOf(deleted(5, 1, maxVersion))} {
					s := expectedSealed(key, epoch, version, b)
					checkBundleMAC(t, key, s, s.MAC)
					if isSealable(epoch) && isSealable(version) {
						checkBundleSealed(t, key, b, s)
						checkBundleOpened(t, key, s, b)
					} else {
						checkBundleNotSealed(t, key, epoch, version, b)
						checkBundleNotOpened(t, key, s)
					}
				}
			}
		}
	}
}

func TestNoEpochsAndNoVersions(t *testing.T) {
	for _, n := range notSealingNumbers() {
		for _, good := range sealingNumbers() {
			for _, b := range someBundles() {
				checkBundleNotSealed(t, 77, n, good, b)
				checkBundleNotSealed(t, 77, good, n, b)
				checkBundleNotOpened(t, 77, expectedSealed(77, n, good, b))
				checkBundleNotOpened(t, 77, expectedSealed(77, good, n, b))
			}
		}
	}
}

// Modulo Modulus, most of these are keys, with which the MAC and the data are right.
func TestSealAndOpenWithoutAKey(t *testing.T) {
	for _, key := range notKeys() {
		for _, b := range someBundles() {
			for _, numbers := range [][2]int{{3, 4}, {0, 0}, {maxVersion, maxVersion}} {
				checkBundleNotSealed(t, key, numbers[0], numbers[1], b)
				checkBundleNotOpened(t, key, expectedSealed(key, numbers[0], numbers[1], b))
			}
		}
		checkBundleNotOpened(t, key, withRightMAC(key, impl.SealedBundle{}))
	}
}

func TestSealBundleThatIsNotValid(t *testing.T) {
	for _, b := range invalidBundles() {
		checkBundleNotSealed(t, 77, 3, 4, b)
		checkBundleNotSealed(t, lastKey, 0, maxVersion, b)
	}
	for _, version := range []int{1, maxVersion, 0, maxVersion + 1} {
		b := bundleOf(active(5, 1, 2), deleted(6, 1, version), active(7, 1, 2))
		if want := version == 1 || version == maxVersion; want {
			checkBundleOpened(t, 77, checkBundleSealed(t, 77, b, expectedSealed(77, 3, 4, b)), b)
		} else {
			checkBundleNotSealed(t, 77, 3, 4, b)
			checkBundleNotOpened(t, 77, expectedSealed(77, 3, 4, b))
		}
	}
}

func TestSealBundleForSeveralReasons(t *testing.T) {
	for _, key := range []int{0, -1, lastKey + 1, math.MinInt} {
		for _, n := range []int{-1, maxVersion + 1, math.MaxInt} {
			for _, b := range []impl.Bundle{bundleOf(impl.Entry{}), bundleOfSize(21), bundleOf(active(6, 1, 1), active(5, 1, 1))} {
				checkBundleNotSealed(t, key, n, n, b)
				checkBundleNotSealed(t, 77, n, n, b)
				checkBundleNotSealed(t, key, 3, 4, b)
				checkBundleNotSealed(t, key, n, 4, bundleOf())
				checkBundleNotSealed(t, key, 3, n, bundleOf())
				checkBundleNotOpened(t, key, sealedOf(n, n, n, 1))
				checkBundleNotOpened(t, key, sealedBytes(key, n, n, nil))
				checkBundleNotOpened(t, 77, sealedBytes(77, n, 4, nil))
			}
		}
	}
}

func TestBundleMAC(t *testing.T) {
	cases := []struct {
		key    int
		sealed impl.SealedBundle
		want   int
	}{
		{0, impl.SealedBundle{}, 1508935151},
		{0, impl.SealedBundle{Data: []byte{}}, 1508935151},
		{1, sealedOf(2, 3, 0, 4), 815453853},
		{77, sealedOf(3, 4, 0, 1, 2), 1313980201},
		{-1, sealedOf(-1, -1, 0, 255), 816123678},
		{math.MinInt, sealedOf(math.MaxInt, math.MinInt, 0, 0), 659052265},
		{math.MaxInt, sealedOf(math.MinInt, math.MaxInt, 0, 0, 0), 277684906},
		{5, sealedOf(227, 227, 0, 227), 1971497175},
		{1, sealedOf(2, 3, 0, bytes.Repeat([]byte{4}, 300)...), 1294558095},
		{1, sealedOf(2, 3, 0, make([]byte, 100000)...), 1624838066},
		{77 + impl.Modulus, sealedOf(3-impl.Modulus, 4+impl.Modulus, 0, 1, 2), 1313980201},
		{77, sealedOf(3, 4, 0, 202, 17, 80, 148, 214), 68347243},
	}
	for _, c := range cases {
		for _, mac := range []int{0, 1, -1, c.want, math.MinInt, math.MaxInt} {
			c.sealed.MAC = mac
			checkBundleMAC(t, c.key, c.sealed, c.want)
		}
	}
}

func TestBundleMACFollowsItsDefinition(t *testing.T) {
	list := append(anyInts(), -7, 77, maxVersion, maxVersion+1, lastKey, impl.Modulus, -impl.Modulus, impl.Modulus+1)
	for _, key := range list {
		for _, epoch := range list {
			for _, version := range list {
				s := sealedOf(epoch, version, key, 1, 0, 255)
				checkBundleMAC(t, key, s, expectedBundleMAC(key, s))
			}
		}
		for _, data := range slices.Concat(boxedData(), tooLongData(), cipherTexts()) {
			s := sealedOf(key, -5, 9, data...)
			checkBundleMAC(t, key, s, expectedBundleMAC(key, s))
		}
	}
}

func TestBundleMACDependsOnEachPart(t *testing.T) {
	for _, data := range append(boxedData(), tooLongData()...) {
		s := sealedOf(3, 4, 0, data...)
		want := impl.BundleMAC(77, s)
		for _, n := range []int{1, -1, 72, 1000003, impl.Modulus - 1} {
			if impl.BundleMAC(77+n, s) == want || impl.BundleMAC(77, sealedOf(3+n, 4, 0, data...)) == want || impl.BundleMAC(77, sealedOf(3, 4+n, 0, data...)) == want {
				t.Errorf("BundleMAC of %+v does not change with a part greater by %d", s, n)
			}
		}
		if len(data) > 300 {
			continue
		}
		for _, other := range changedData(data) {
			if impl.BundleMAC(77, sealedOf(3, 4, 0, other...)) == want {
				t.Errorf("BundleMAC of %v is that of %v", data, other)
			}
		}
	}
}

// Promise 18.
func TestSealedBundleIsOpened(t *testing.T) {
	for _, key := range boxKeys() {
		for _, b := range append(someBundles(), greatestBundle()) {
			for _, numbers := range [][2]int{{0, 0}, {3, 4}, {4, 3}, {0, maxVersion}, {maxVersion, 0}, {maxVersion, maxVersion}} {
				s, ok := impl.SealBundle(key, numbers[0], numbers[1], b)
				if !ok {
					t.Errorf("SealBundle with %d of %+v fails", key, b)
				}
				checkBundleOpened(t, key, s, b)
			}
		}
	}
}

// Promise 18.
func TestSealedBundleIsOpenedWithNoOtherKey(t *testing.T) {
	strangers := slices.Concat(someKeys(), boxKeys(), notKeys(), anyInts())
	for _, key := range boxKeys() {
		for _, b := range []impl.Bundle{bundleOf(), bundleOf(deleted(5, 1, 2)), bundleOfSize(2)} {
			s := expectedSealed(key, 3, 4, b)
			dataKey := expectedDataKey(key, 3, 4)
			for _, stranger := range append(strangers, key+1, key-1, -key, key+impl.Modulus, key-impl.Modulus, key+1<<32, impl.Modulus-key, dataKey, s.MAC, impl.PublicKey(key), impl.PrivateKey(key)) {
				if stranger != key {
					checkBundleNotOpened(t, stranger, s)
				}
			}
		}
	}
}

// Promise 18: for each length that a bundle can have, one key fits a MAC and no other. The MAC adds up multiples of its values, so this follows from the MACs of two keys.
func TestOneKeyFitsEachMAC(t *testing.T) {
	for length := range 1 + 12*maxEntries + 1 {
		s := sealedOf(3, 4, 0, patternBytes(length)...)
		atZero, atOne := impl.BundleMAC(0, s), impl.BundleMAC(1, s)
		if atZero == atOne {
			t.Errorf("the MAC of %d bytes does not depend on the key", length)
		}
		for _, key := range []int{2, 77, lastKey} {
			if want := impl.Mod(atZero+key*impl.Mod(atOne-atZero, impl.Modulus), impl.Modulus); impl.BundleMAC(key, s) != want {
				t.Errorf("the MAC of %d bytes with the key %d is not %d", length, key, want)
			}
		}
	}
}

func TestSealedBundleWithAnotherEpochOrVersionIsNotOpened(t *testing.T) {
	for _, key := range []int{1, 77, lastKey} {
		for _, b := range []impl.Bundle{bundleOf(), bundleOf(deleted(5, 1, 2)), bundleOfSize(maxEntries)} {
			s := expectedSealed(key, 3, 4, b)
			for n := range 300 {
				checkRelabelled(t, key, s, n, 4)
				checkRelabelled(t, key, s, 3, n)
			}
			for _, n := range slices.Concat(sealingNumbers(), notSealingNumbers(), anyInts()) {
				checkRelabelled(t, key, s, n, 4)
				checkRelabelled(t, key, s, 3, n)
				checkRelabelled(t, key, s, 3+impl.Mod(n, 900000), 4)
				checkRelabelled(t, key, s, 3, 4+impl.Mod(n, 900000))
			}
			checkRelabelled(t, key, s, 4, 3)
			checkRelabelled(t, key, s, 3+impl.Modulus, 4)
			checkRelabelled(t, key, s, 3, 4-impl.Modulus)
		}
	}
}

// checkRelabelled gives the same data another epoch or version, with the MAC of the given sealed bundle and with a right one.
func checkRelabelled(t *testing.T, key int, s impl.SealedBundle, epoch int, version int) {
	t.Helper()
	if epoch == s.Epoch && version == s.Version {
		return
	}
	s.Epoch, s.Version = epoch, version
	checkBundleNotOpened(t, key, s)
	plain := impl.Decrypt(expectedDataKey(key, epoch, version), s.Data)
	s = withRightMAC(key, s)
	if want, ok := expectedDecoded(plain); ok && isSealable(epoch) && isSealable(version) {
		checkBundleOpened(t, key, s, want)
	} else {
		checkBundleNotOpened(t, key, s)
	}
}

func TestSealedBundleWithAnotherMACIsNotOpened(t *testing.T) {
	for _, key := range boxKeys() {
		for _, b := range someBundles() {
			s := expectedSealed(key, 3, 4, b)
			mac := s.MAC
			for _, other := range append(anyInts(), mac+1, mac-1, -mac, mac+impl.Modulus, mac-impl.Modulus, mac^1<<30, mac+1<<32, s.Epoch, s.Version, impl.BundleMAC(impl.DeriveKey(key, []int{223, 3, 4}), s), impl.KeyedHash(key, impl.BytesToInts(s.Data))) {
				if s.MAC = other; other != mac {
					checkBundleNotOpened(t, key, s)
				}
			}
		}
	}
}

func TestSealedBundleWithChangedDataIsNotOpened(t *testing.T) {
	for _, key := range []int{1, 77, lastKey} {
		for _, b := range append(someBundles(), greatestBundle()) {
			s := expectedSealed(key, 3, 4, b)
			for _, other := range changedData(s.Data) {
				checkBundleNotOpened(t, key, sealedOf(3, 4, s.MAC, other...))
			}
			for end := range s.Data {
				checkBundleNotOpened(t, key, sealedOf(3, 4, s.MAC, s.Data[:end]...))
			}
			checkBundleNotOpened(t, key, sealedOf(3, 4, s.MAC, impl.EncodeBundle(b)...))
			checkBundleNotOpened(t, key, sealedOf(3, 4, s.MAC, append(slices.Clone(s.Data), make([]byte, 1000)...)...))
		}
	}
}

func TestSealedBundleWithAnyByteChangedIsNotOpened(t *testing.T) {
	for _, b := range []impl.Bundle{bundleOf(), bundleOf(deleted(5, 1, 2)), bundleOfSize(3)} {
		s := expectedSealed(77, 3, 4, b)
		for place := range s.Data {
			for range 255 {
				s.Data[place]++
				checkBundleNotOpened(t, 77, s)
			}
			s.Data[place]++
			checkBundleOpened(t, 77, s, b)
		}
	}
}

// The parts of two sealed bundles of one key do not go together.
func TestMixedSealedBundleIsNotOpened(t *testing.T) {
	one := bundleOf(active(5, 1, 2))
	for _, pair := range [][2]impl.SealedBundle{
		{expectedSealed(77, 3, 4, one), expectedSealed(77, 5, 6, bundleOf(deleted(5, 1, 2)))},
		{expectedSealed(77, 3, 4, one), expectedSealed(77, 5, 6, bundleOfSize(3))},
		{expectedSealed(77, 3, 4, bundleOf()), expectedSealed(77, maxVersion, 0, greatestBundle())},
		{expectedSealed(77, 0, 0, one), expectedSealed(77, 1, 1, one)},
	} {
		for range 2 {
			a, b := pair[0], pair[1]
			checkBundleNotOpened(t, 77, sealedOf(b.Epoch, a.Version, a.MAC, a.Data...))
			checkBundleNotOpened(t, 77, sealedOf(a.Epoch, b.Version, a.MAC, a.Data...))
			checkBundleNotOpened(t, 77, sealedOf(b.Epoch, b.Version, a.MAC, a.Data...))
			checkBundleNotOpened(t, 77, sealedOf(a.Epoch, a.Version, a.MAC, b.Data...))
			checkBundleNotOpened(t, 77, sealedOf(a.Epoch, a.Version, b.MAC, a.Data...))
			pair[0], pair[1] = pair[1], pair[0]
		}
	}
}

// The chapter's hashes add up multiples of their values: with 2147 epochs and 477206 versions more, they are the same modulo Modulus.
func TestSealedBundleUnderTheNumbersOfTheSameHash(t *testing.T) {
	for _, key := range boxKeys() {
		for _, b := range someBundles() {
			s := expectedSealed(key, 3, 4, b)
			s.Epoch, s.Version = 3+2147, 4+477206
			checkBundleSealed(t, key, b, s)
			checkBundleOpened(t, key, s, b)
		}
	}
}

// For the same reason, two fields can be changed together: the last byte, which says whether the last entry is deleted, and the MAC.
func TestSealedBundleWithDataAndMACChangedTogether(t *testing.T) {
	for _, key := range boxKeys() {
		s := expectedSealed(key, 3, 4, bundleOf(active(5, 1, 2)))
		last := len(s.Data) - 1
		if s.Data[last] == 255 {
			t.Fatalf("the last byte of %+v cannot be greater", s)
		}
		s.Data[last]++
		checkBundleNotOpened(t, key, s)
		s.MAC = impl.Mod(s.MAC+1000003, impl.Modulus)
		checkBundleOpened(t, key, s, bundleOf(deleted(5, 1, 2)))
	}
}

// Here the MAC is right, so that only the decoding can fail.
func TestOpenBundleOfOtherBytes(t *testing.T) {
	list := [][]byte{nil, {}, {1, 5, 1, 2, 2}, {1, 5, 1, 2}, {0, 0}, {1, 5, 1, 0, 0}, {128, 0}, {1}, {2, 5, 1, 2, 0, 5, 1, 2, 0}, patternBytes(100), patternBytes(241), patternBytes(242), make([]byte, 10000), patternBytes(10000), []byte("hello")}
	for _, b := range invalidBundles() {
		list = append(list, bundleBytes(b))
	}
	for _, d := range list {
		checkNotDecoded(t, d)
		for _, key := range []int{1, 77, lastKey} {
			checkBundleNotOpened(t, key, sealedBytes(key, 3, 4, d))
			checkBundleNotOpened(t, key, withRightMAC(key, sealedOf(maxVersion, maxVersion, 0, d...)))
		}
	}
	for d, b := range encodedBundles() {
		checkBundleOpened(t, 77, sealedBytes(77, 3, 4, []byte(d)), b)
	}
}

// Any one byte is encrypted to the 0 of the bundle without entries by some keys.
func TestOpenBundleOfOneByte(t *testing.T) {
	for _, c := range allBytes() {
		s := withRightMAC(77, sealedOf(3, 4, 0, c))
		if c == 201 {
			checkBundleOpened(t, 77, s, bundleOf())
		} else {
			checkBundleNotOpened(t, 77, s)
		}
	}
}

func TestOpenBundleOfTheZeroSealedBundle(t *testing.T) {
	for _, key := range slices.Concat(boxKeys(), notKeys(), anyInts()) {
		checkBundleNotOpened(t, key, impl.SealedBundle{})
		checkBundleNotOpened(t, key, impl.SealedBundle{Data: []byte{}})
		checkBundleNotOpened(t, key, withRightMAC(key, impl.SealedBundle{}))
	}
}

func TestIsFresher(t *testing.T) {
	for _, epoch := range []int{2, 3, 4} {
		for _, version := range []int{3, 4, 5} {
			a, b := sealedOf(epoch, version, 9, 1), sealedOf(3, 4, 8, 2)
			checkFresher(t, a, b, epoch == 4 || epoch == 3 && version == 5)
			checkFresher(t, b, a, epoch == 2 || epoch == 3 && version == 3)
		}
	}
}

func TestIsFresherFollowsItsDefinition(t *testing.T) {
	list := append(anyInts(), 2, maxVersion-1, maxVersion, maxVersion+1, math.MinInt+1, math.MaxInt-1, 1<<32, 1<<32+1)
	for _, epoch := range list {
		for _, version := range list {
			for _, otherEpoch := range list {
				for _, otherVersion := range list {
					checkFresher(t, sealedOf(epoch, version, 0), sealedOf(otherEpoch, otherVersion, 0), slices.Compare([]int{epoch, version}, []int{otherEpoch, otherVersion}) > 0)
				}
			}
		}
	}
}

func TestIsFresherLooksAtNothingElse(t *testing.T) {
	for _, data := range [][]byte{nil, {}, {0}, {255}, {1, 2}, patternBytes(100)} {
		for _, mac := range anyInts() {
			s, other := sealedOf(3, 4, mac, data...), sealedOf(3, 4, 5, 1)
			checkFresher(t, s, other, false)
			checkFresher(t, other, s, false)
			checkFresher(t, s, s, false)
			checkFresher(t, sealedOf(3, 5, mac, data...), other, true)
			checkFresher(t, other, sealedOf(3, 5, mac, data...), false)
			checkFresher(t, sealedOf(2, 9, mac, data...), other, false)
			checkFresher(t, other, sealedOf(2, 9, mac, data...), true)
		}
	}
}

// someSealed are sealed bundles of every kind, also such that nothing seals.
func someSealed() []impl.SealedBundle {
	list := []impl.SealedBundle{{}, {Data: []byte{}}, {Data: []byte{0}}, sealedOf(math.MinInt, math.MaxInt, math.MinInt, 255), sealedOf(math.MaxInt, math.MinInt, math.MaxInt, 0, 0)}
	for _, b := range someBundles() {
		list = append(list, expectedSealed(77, 3, 4, b), expectedSealed(78, 3, 4, b), expectedSealed(77, 4, 4, b), expectedSealed(77, 3, 5, b))
	}
	for _, data := range boxedData() {
		list = append(list, sealedOf(3, 4, 5, data...))
	}
	for _, n := range anyInts() {
		list = append(list, sealedOf(n, 4, 5, 6), sealedOf(3, n, 5, 6), sealedOf(3, 4, n, 6))
	}
	return list
}

func TestEqualSealed(t *testing.T) {
	for _, a := range someSealed() {
		checkEqualSealed(t, a, a, true)
		checkEqualSealed(t, a, cloneSealed(a), true)
		for _, b := range someSealed() {
			checkEqualSealed(t, a, b, sameSealed(a, b))
		}
	}
}

func TestEqualSealedOfNilAndEmpty(t *testing.T) {
	checkEqualSealed(t, impl.SealedBundle{}, impl.SealedBundle{}, true)
	checkEqualSealed(t, impl.SealedBundle{}, impl.SealedBundle{Data: []byte{}}, true)
	checkEqualSealed(t, impl.SealedBundle{Data: make([]byte, 0, 4)}, impl.SealedBundle{Data: []byte{}}, true)
	checkEqualSealed(t, impl.SealedBundle{}, impl.SealedBundle{Data: []byte{0}}, false)
	checkEqualSealed(t, impl.SealedBundle{Data: []byte{}}, impl.SealedBundle{Data: []byte{0}}, false)
}

func TestEqualSealedThatDiffer(t *testing.T) {
	for _, s := range someSealed() {
		for _, n := range []int{1, -1, 1 << 32, impl.Modulus, math.MinInt, math.MaxInt} {
			checkEqualSealed(t, s, sealedOf(s.Epoch+n, s.Version, s.MAC, s.Data...), false)
			checkEqualSealed(t, s, sealedOf(s.Epoch, s.Version+n, s.MAC, s.Data...), false)
			checkEqualSealed(t, s, sealedOf(s.Epoch, s.Version, s.MAC+n, s.Data...), false)
		}
		for place := range s.Data {
			other := cloneSealed(s)
			other.Data[place]++
			checkEqualSealed(t, s, other, false)
			checkEqualSealed(t, s, sealedOf(s.Epoch, s.Version, s.MAC, s.Data[:place]...), false)
			checkEqualSealed(t, s, sealedOf(s.Epoch, s.Version, s.MAC, s.Data[place+1:]...), false)
		}
		for _, data := range changedData(s.Data) {
			checkEqualSealed(t, s, sealedOf(s.Epoch, s.Version, s.MAC, data...), false)
		}
	}
	checkEqualSealed(t, sealedOf(1, 2, 3, 4), sealedOf(2, 1, 3, 4), false)
	checkEqualSealed(t, sealedOf(1, 2, 3, 4), sealedOf(3, 2, 1, 4), false)
	checkEqualSealed(t, sealedOf(1, 2, 3, 4), sealedOf(1, 3, 2, 4), false)
	checkEqualSealed(t, sealedOf(1, 2, 3, 4, 5), sealedOf(1, 2, 3, 5, 4), false)
}

// Promise 18: devices change a bundle and seal it, with one key after the other, and each sealed bundle is opened with its own key only.
func TestSealedBundlesOverALongTime(t *testing.T) {
	for start := 1; start <= 20; start++ {
		draw := start
		below := func(n int) int {
			draw = (draw*48271 + 11) % impl.Modulus
			return draw / 7 % n
		}
		kept := []impl.SealedBundle{}
		keys, bundles := []int{}, []impl.Bundle{}
		key, epoch, version, b := 1+below(lastKey), below(maxVersion-50), below(maxVersion-50), impl.Bundle{}
		for range 40 {
			switch below(5) {
			case 0:
				key, epoch = impl.DeriveKey(key, []int{epoch}), epoch+1
			case 1:
				b, _ = impl.DeleteEntry(b, below(6), below(3))
			default:
				b, _ = impl.PutEntry(b, below(6), below(3))
			}
			version++
			s := checkBundleSealed(t, key, b, expectedSealed(key, epoch, version, b))
			kept, keys, bundles = append(kept, s), append(keys, key), append(bundles, b)
		}
		for i, s := range kept {
			for j, other := range keys {
				if other == keys[i] {
					checkBundleOpened(t, other, s, bundles[i])
				} else {
					checkBundleNotOpened(t, other, s)
				}
				checkFresher(t, s, kept[j], i > j)
				checkEqualSealed(t, s, kept[j], i == j)
			}
		}
	}
}

func TestEncodeBundleIsApartFromItsBundle(t *testing.T) {
	for _, b := range append(changedBundles(), someBundles()...) {
		entries, array := withSpare(active(66, 66, 66), b.Entries...)
		before := slices.Clone(array)
		got := impl.EncodeBundle(bundleOf(entries...))
		checkApart(t, "EncodeBundle", got, 99, array, before, deleted(55, 55, 55))
	}
}

func TestDecodeBundleIsApartFromItsBytes(t *testing.T) {
	for _, b := range append(changedBundles(), someBundles()...) {
		for _, d := range [][]byte{impl.EncodeBundle(b), bundleBytes(b)} {
			given, array := withSpare(byte(66), d...)
			before := slices.Clone(array)
			got, _ := impl.DecodeBundle(given)
			checkApart(t, "DecodeBundle", got.Entries, active(99, 99, 99), array, before, 55)
		}
	}
}

func TestSealBundleIsApartFromItsBundle(t *testing.T) {
	for _, b := range append(changedBundles(), someBundles()...) {
		entries, array := withSpare(active(66, 66, 66), b.Entries...)
		before := slices.Clone(array)
		got, _ := impl.SealBundle(77, 3, 4, bundleOf(entries...))
		checkApart(t, "SealBundle", got.Data, 99, array, before, deleted(55, 55, 55))
	}
}

func TestOpenBundleIsApartFromItsSealedBundle(t *testing.T) {
	for _, b := range append(changedBundles(), someBundles()...) {
		for _, key := range []int{77, 78} {
			s := expectedSealed(77, 3, 4, b)
			data, array := withSpare(byte(66), s.Data...)
			before := slices.Clone(array)
			s.Data = data
			got, _ := impl.OpenBundle(key, s)
			checkApart(t, "OpenBundle", got.Entries, active(99, 99, 99), array, before, 55)
		}
	}
}

func TestSealedBundleQuestionsLeaveTheirSealedBundles(t *testing.T) {
	for _, s := range someSealed() {
		data, array := withSpare(byte(66), s.Data...)
		before := slices.Clone(array)
		given := sealedOf(s.Epoch, s.Version, s.MAC, data...)
		impl.BundleMAC(77, given)
		impl.OpenBundle(77, given)
		impl.IsFresher(given, s)
		impl.IsFresher(given, given)
		impl.EqualSealed(given, s)
		impl.EqualSealed(s, given)
		if !bytes.Equal(array, before) {
			t.Errorf("the data %v became %v", before, array)
		}
	}
}

// The results of two calls with the same arguments can be changed one without the other.
func TestResultsOfSealedBundlesAreApart(t *testing.T) {
	for _, b := range append(someBundles(), greatestBundle()) {
		d, s := bundleBytes(b), expectedSealed(77, 3, 4, b)
		encoded, encodedAgain := impl.EncodeBundle(b), impl.EncodeBundle(b)
		one, _ := impl.SealBundle(77, 3, 4, b)
		other, _ := impl.SealBundle(77, 3, 4, b)
		decoded, _ := impl.DecodeBundle(d)
		decodedAgain, _ := impl.DecodeBundle(d)
		opened, _ := impl.OpenBundle(77, s)
		openedAgain, _ := impl.OpenBundle(77, s)
		for _, list := range [][]byte{encoded[:cap(encoded)], one.Data[:cap(one.Data)]} {
			for i := range list {
				list[i] = 66
			}
		}
		for _, list := range [][]impl.Entry{decoded.Entries[:cap(decoded.Entries)], opened.Entries[:cap(opened.Entries)]} {
			for i := range list {
				list[i] = active(66, 66, 66)
			}
		}
		if !bytes.Equal(encodedAgain, d) || !sameSealed(other, s) || !sameBundle(decodedAgain, b) || !sameBundle(openedAgain, b) {
			t.Errorf("the results became %v, %+v, %+v and %+v", encodedAgain, other, decodedAgain, openedAgain)
		}
	}
}

// What is in the spare capacity belongs neither to the bundle nor to the bytes.
func TestSealedBundleFunctionsIgnoreSpareCapacity(t *testing.T) {
	for _, b := range append(someBundles(), greatestBundle()) {
		for _, filler := range []byte{0, 1, 66, 128, 255} {
			entries, _ := withSpare(active(int(filler), 5, 1), b.Entries...)
			s := checkBundleSealed(t, 77, bundleOf(entries...), expectedSealed(77, 3, 4, b))
			d, _ := withSpare(filler, bundleBytes(b)...)
			checkEncoded(t, bundleOf(entries...), d...)
			checkDecoded(t, d, b)
			data, array := withSpare(filler, s.Data...)
			given := sealedOf(3, 4, s.MAC, data...)
			checkBundleMAC(t, 77, given, s.MAC)
			checkBundleOpened(t, 77, given, b)
			checkEqualSealed(t, given, s, true)
			checkEqualSealed(t, given, sealedOf(3, 4, s.MAC, array...), false)
			if len(d) > 1 {
				checkNotDecoded(t, d[:len(d)-1])
				checkBundleNotOpened(t, 77, withRightMAC(77, sealedOf(3, 4, 0, s.Data[:len(s.Data)-1]...)))
			}
		}
	}
}

// Between the calls with the same arguments there are others, of which nothing may be left.
func TestSealedBundleFunctionsKeepNoState(t *testing.T) {
	for range 3 {
		b := bundleOf(deleted(5, 1, 2))
		checkEncoded(t, b, 1, 5, 1, 2, 1)
		checkDecoded(t, []byte{1, 5, 1, 2, 1}, b)
		s := checkBundleSealed(t, 77, b, sealedOf(3, 4, 68347243, 202, 17, 80, 148, 214))
		checkBundleMAC(t, 77, s, 68347243)
		checkBundleOpened(t, 77, s, b)
		checkBundleNotOpened(t, 78, s)
		checkFresher(t, s, sealedOf(3, 3, 0), true)
		checkFresher(t, s, sealedOf(3, 5, 0), false)
		checkEqualSealed(t, s, sealedOf(3, 4, 68347243, 202, 17, 80, 148, 214), true)
		for _, other := range append(someBundles(), bundleOf(impl.Entry{})) {
			for _, key := range []int{0, 1, 78, lastKey} {
				impl.DecodeBundle(impl.EncodeBundle(other))
				sealed, _ := impl.SealBundle(key, 3, 5, other)
				impl.OpenBundle(key, sealed)
				impl.IsFresher(sealed, s)
				impl.EqualSealed(sealed, s)
			}
		}
	}
}

func TestSealedBundleFunctionsReturnForAllArguments(t *testing.T) {
	numbers := append(anyInts(), 2, 77, maxVersion-1, maxVersion, maxVersion+1, lastKey, impl.Modulus)
	for _, n := range numbers {
		for _, m := range numbers {
			for _, b := range []impl.Bundle{{}, bundleOf(active(n, m, 1)), bundleOf(deleted(5, n, m)), bundleOf(active(n, 3, 1), active(m, 3, 1))} {
				checkAnySealed(t, n, m, 4, b)
				checkAnySealed(t, m, 3, n, b)
				checkAnySealed(t, 77, n, m, b)
			}
		}
	}
	for _, d := range [][]byte{make([]byte, 1000000), bytes.Repeat([]byte{255}, 1000000), bytes.Repeat([]byte{128}, 1000000), patternBytes(1000000), append([]byte{20}, bytes.Repeat([]byte{1}, 1000000)...), append([]byte{1, 5, 1, 2}, make([]byte, 1000000)...)} {
		checkNotDecoded(t, d)
		checkBundleNotOpened(t, 77, sealedOf(3, 4, 5, d...))
		checkBundleNotOpened(t, 77, withRightMAC(77, sealedOf(3, 4, 0, d...)))
		checkEqualSealed(t, sealedOf(3, 4, 5, d...), sealedOf(3, 4, 5, slices.Clone(d)...), true)
		checkEqualSealed(t, sealedOf(3, 4, 5, d...), sealedOf(3, 4, 5, d[1:]...), false)
	}
	for _, b := range []impl.Bundle{bundleOfSites(0, 100000), bundleOf(make([]impl.Entry, 100000)...), bundleOf(slices.Repeat([]impl.Entry{deleted(math.MaxInt, math.MinInt, math.MaxInt)}, 5000)...)} {
		checkEncoded(t, b)
		checkBundleNotSealed(t, 77, 3, 4, b)
	}
}

func checkAnySealed(t *testing.T, key int, epoch int, version int, b impl.Bundle) {
	t.Helper()
	if !expectedBundle(b) {
		checkEncoded(t, b)
		checkBundleNotSealed(t, key, epoch, version, b)
		checkBundleNotOpened(t, key, sealedBytes(key, epoch, version, impl.EncodeBundle(b)))
		return
	}
	d := checkEncoded(t, b, bundleBytes(b)...)
	checkDecoded(t, d, b)
	s := expectedSealed(key, epoch, version, b)
	checkBundleMAC(t, key, s, s.MAC)
	checkEqualSealed(t, s, cloneSealed(s), true)
	checkFresher(t, s, s, false)
	if isKey(key) && isSealable(epoch) && isSealable(version) {
		checkBundleSealed(t, key, b, s)
		checkBundleOpened(t, key, s, b)
	} else {
		checkBundleNotSealed(t, key, epoch, version, b)
		checkBundleNotOpened(t, key, s)
	}
}
