package tests

import (
	"bytes"
	"math"
	"slices"
	"testing"

	"loop.example/g00581/impl"
)

// boxKeys are valid keys, with the least and the greatest one.
func boxKeys() []int {
	return []int{1, 2, 77, 78, 48271, 1000003, 1899818559, lastKey - 1, lastKey}
}

// boxedData has data of every kind that a box takes, with the least and the greatest length.
func boxedData() [][]byte {
	return [][]byte{
		nil, {}, {0}, {255}, []byte("hi"), {0, 0, 0}, {255, 0, 255}, []byte("hello"), patternBytes(100), patternBytes(199), patternBytes(200), make([]byte, 200),
	}
}

// tooLongData is more than a box takes.
func tooLongData() [][]byte {
	return [][]byte{patternBytes(201), make([]byte, 201), patternBytes(202), patternBytes(400), patternBytes(1000)}
}

func expectedBoxKey(private int, ephemeral int) int {
	return max(1, expectedKeyedHash(private, 151, 163, ephemeral))
}

func expectedBoxMAC(key int, b impl.Box) int {
	values := []int{167, b.To, b.Ephemeral, len(b.Data)}
	for _, c := range b.Data {
		values = append(values, int(c))
	}
	return expectedKeyedHash(key, values...)
}

func expectedBox(private int, ephemeral int, data []byte) impl.Box {
	key := expectedBoxKey(private, ephemeral)
	b := impl.Box{To: expectedPublic(private), Ephemeral: ephemeral}
	for i, c := range data {
		b.Data = append(b.Data, c+byte(expectedKeyedHash(key, i)))
	}
	b.MAC = expectedBoxMAC(key, b)
	return b
}

// forgedBox has the MAC with which private would open it if everything else were right.
func forgedBox(private int, to int, ephemeral int, data []byte) impl.Box {
	b := impl.Box{To: to, Ephemeral: ephemeral, Data: data}
	b.MAC = expectedBoxMAC(expectedBoxKey(private, ephemeral), b)
	return b
}

// sameBox does what EqualBoxes should do.
func sameBox(a impl.Box, b impl.Box) bool {
	return a.To == b.To && a.Ephemeral == b.Ephemeral && bytes.Equal(a.Data, b.Data) && a.MAC == b.MAC
}

func sameBoxes(a []impl.Box, b []impl.Box) bool {
	return slices.EqualFunc(a, b, sameBox)
}

// cloneBoxes copies the data of the boxes too.
func cloneBoxes(boxes []impl.Box) []impl.Box {
	list := slices.Clone(boxes)
	for i := range list {
		list[i].Data = slices.Clone(list[i].Data)
	}
	return list
}

// sealed is the box that SealBox makes for the owner of private.
func sealed(t *testing.T, private int, ephemeral int, data []byte) impl.Box {
	t.Helper()
	b, ok := impl.SealBox(expectedPublic(private), ephemeral, data)
	if !ok {
		t.Fatalf("SealBox for %d with %d and %v fails", private, ephemeral, data)
	}
	return b
}

func publicKeys(privates ...int) []int {
	publics := []int{}
	for _, private := range privates {
		publics = append(publics, expectedPublic(private))
	}
	return publics
}

func checkSealed(t *testing.T, public int, ephemeral int, data []byte, want impl.Box) {
	t.Helper()
	if got, ok := impl.SealBox(public, ephemeral, data); !ok || !sameBox(got, want) {
		t.Errorf("SealBox(%d, %d, %v) = %v, %v, want %v, true", public, ephemeral, data, got, ok, want)
	}
}

func checkNotSealed(t *testing.T, public int, ephemeral int, data []byte) {
	t.Helper()
	if got, ok := impl.SealBox(public, ephemeral, data); ok || !sameBox(got, impl.Box{}) {
		t.Errorf("SealBox(%d, %d, %v) = %v, %v, want the zero Box, false", public, ephemeral, data, got, ok)
	}
}

func checkBoxKey(t *testing.T, private int, ephemeral int, want int) {
	t.Helper()
	if got := impl.BoxKey(private, ephemeral); got != want {
		t.Errorf("BoxKey(%d, %d) = %d, want %d", private, ephemeral, got, want)
	}
}

func checkBoxMAC(t *testing.T, key int, b impl.Box, want int) {
	t.Helper()
	if got := impl.BoxMAC(key, b); got != want {
		t.Errorf("BoxMAC(%d, %v) = %d, want %d", key, b, got, want)
	}
}

func checkOpened(t *testing.T, private int, b impl.Box, want []byte) {
	t.Helper()
	if got, ok := impl.OpenBox(private, b); !ok || !bytes.Equal(got, want) {
		t.Errorf("OpenBox(%d, %v) = %v, %v, want %v, true", private, b, got, ok, want)
	}
}

func checkNotOpened(t *testing.T, private int, b impl.Box) {
	t.Helper()
	if got, ok := impl.OpenBox(private, b); ok || len(got) > 0 {
		t.Errorf("OpenBox(%d, %v) = %v, %v, want nothing, false", private, b, got, ok)
	}
}

func checkAllSealed(t *testing.T, publics []int, ephemeral int, data []byte, want []impl.Box) {
	t.Helper()
	if got, ok := impl.SealBoxes(publics, ephemeral, data); !ok || !sameBoxes(got, want) {
		t.Errorf("SealBoxes(%v, %d, %v) = %v, %v, want %v, true", publics, ephemeral, data, got, ok, want)
	}
}

func checkNoneSealed(t *testing.T, publics []int, ephemeral int, data []byte) {
	t.Helper()
	if got, ok := impl.SealBoxes(publics, ephemeral, data); ok || len(got) > 0 {
		t.Errorf("SealBoxes(%v, %d, %v) = %v, %v, want nothing, false", publics, ephemeral, data, got, ok)
	}
}

func checkFound(t *testing.T, boxes []impl.Box, private int, want []byte) {
	t.Helper()
	if got, ok := impl.FindBox(boxes, private); !ok || !bytes.Equal(got, want) {
		t.Errorf("FindBox(%v, %d) = %v, %v, want %v, true", boxes, private, got, ok, want)
	}
}

func checkNotFound(t *testing.T, boxes []impl.Box, private int) {
	t.Helper()
	if got, ok := impl.FindBox(boxes, private); ok || len(got) > 0 {
		t.Errorf("FindBox(%v, %d) = %v, %v, want nothing, false", boxes, private, got, ok)
	}
}

// checkEqualBoxes asks in both orders.
func checkEqualBoxes(t *testing.T, a impl.Box, b impl.Box, want bool) {
	t.Helper()
	if impl.EqualBoxes(a, b) != want || impl.EqualBoxes(b, a) != want {
		t.Errorf("EqualBoxes(%v, %v) = %v, and %v in the other order, want %v", a, b, impl.EqualBoxes(a, b), impl.EqualBoxes(b, a), want)
	}
}

func TestMaxBoxData(t *testing.T) {
	if impl.MaxBoxData != 200 {
		t.Errorf("MaxBoxData is %d", impl.MaxBoxData)
	}
}

func TestSealBox(t *testing.T) {
	cases := []struct {
		data []byte
		want impl.Box
	}{
		{[]byte("hi"), impl.Box{To: 3716867, Ephemeral: 5, Data: []byte{41, 109}, MAC: 1056771091}},
		{nil, impl.Box{To: 3716867, Ephemeral: 5, MAC: 1240862524}},
		{[]byte{}, impl.Box{To: 3716867, Ephemeral: 5, MAC: 1240862524}},
		{[]byte("hi"), impl.Box{To: 3716867, Ephemeral: 6, Data: []byte{13, 81}, MAC: 755353098}},
		{[]byte("hi"), impl.Box{To: 3765138, Ephemeral: 5, Data: []byte{52, 120}, MAC: 1618857032}},
		{[]byte{0}, impl.Box{To: 48271, Ephemeral: 1, Data: []byte{207}, MAC: 1151961838}},
		{[]byte{255}, impl.Box{To: 2147435376, Ephemeral: lastKey, Data: []byte{238}, MAC: 1744977137}},
		{[]byte("hi"), impl.Box{To: 48271, Ephemeral: lastKey, Data: []byte{110, 178}, MAC: 457713505}},
		{[]byte("hello"), impl.Box{To: 2147435376, Ephemeral: 1, Data: []byte{32, 96, 170, 237, 51}, MAC: 731428522}},
		{[]byte{0, 0, 0}, impl.Box{To: 1, Ephemeral: 77, Data: []byte{178, 245, 56}, MAC: 940473590}},
		{[]byte{255, 0, 255}, impl.Box{To: 1026504579, Ephemeral: 48271, Data: []byte{184, 252, 62}, MAC: 602981985}},
	}
	for _, c := range cases {
		checkSealed(t, c.want.To, c.want.Ephemeral, c.data, c.want)
		checkOpened(t, expectedPrivate(c.want.To), c.want, c.data)
	}
}

func TestSealBoxFollowsItsDefinition(t *testing.T) {
	for _, private := range boxKeys() {
		for _, ephemeral := range boxKeys() {
			for _, data := range boxedData() {
				checkSealed(t, expectedPublic(private), ephemeral, data, expectedBox(private, ephemeral, data))
			}
		}
	}
}

// The least and the greatest public keys have private keys as well.
func TestSealBoxToEveryKey(t *testing.T) {
	for _, key := range append(someKeys(), boxKeys()...) {
		private := impl.PrivateKey(key)
		b, ok := impl.SealBox(key, 5, []byte("hi"))
		if !ok || b.To != key {
			t.Errorf("SealBox(%d, 5, hi) = %v, %v", key, b, ok)
		}
		checkOpened(t, private, b, []byte("hi"))
		checkOpened(t, key, sealed(t, key, key, []byte("hi")), []byte("hi"))
	}
}

func TestSealBoxOfEveryLength(t *testing.T) {
	for length := range 210 {
		data := patternBytes(length)
		if length > 200 {
			checkNotSealed(t, 3716867, 5, data)
			continue
		}
		b := expectedBox(77, 5, data)
		checkSealed(t, 3716867, 5, data, b)
		checkOpened(t, 77, b, data)
	}
}

func TestSealBoxUsesTheFunctionsOfTheChapter(t *testing.T) {
	for _, private := range boxKeys() {
		for _, data := range boxedData() {
			b := sealed(t, private, 600, data)
			key := impl.BoxKey(private, 600)
			if !bytes.Equal(b.Data, impl.Encrypt(key, data)) || b.MAC != impl.BoxMAC(key, b) {
				t.Errorf("SealBox for %d and %v = %v", private, data, b)
			}
		}
	}
}

// All 256 bytes do not fit into a box, so two boxes carry them.
func TestSealBoxOfEveryByte(t *testing.T) {
	for _, data := range [][]byte{allBytes()[:128], allBytes()[128:]} {
		b := expectedBox(77, 5, data)
		checkSealed(t, 3716867, 5, data, b)
		checkOpened(t, 77, b, data)
	}
}

func TestSealBoxWithoutAKey(t *testing.T) {
	for _, public := range notKeys() {
		for _, ephemeral := range []int{5, 1, lastKey} {
			for _, data := range [][]byte{nil, {}, []byte("hi"), patternBytes(200)} {
				checkNotSealed(t, public, ephemeral, data)
			}
		}
	}
}

func TestSealBoxWithoutAnEphemeral(t *testing.T) {
	for _, ephemeral := range notKeys() {
		for _, private := range boxKeys() {
			for _, data := range [][]byte{nil, {}, []byte("hi"), patternBytes(200)} {
				checkNotSealed(t, expectedPublic(private), ephemeral, data)
			}
		}
	}
}

func TestSealBoxOfTooLongData(t *testing.T) {
	for _, data := range tooLongData() {
		for _, private := range boxKeys() {
			for _, ephemeral := range boxKeys() {
				checkNotSealed(t, expectedPublic(private), ephemeral, data)
			}
		}
	}
}

func TestSealBoxForSeveralReasons(t *testing.T) {
	for _, n := range notKeys() {
		checkNotSealed(t, n, n, nil)
		checkNotSealed(t, n, n, patternBytes(201))
		checkNotSealed(t, n, 5, patternBytes(201))
		checkNotSealed(t, 3716867, n, patternBytes(201))
	}
}

func TestBoxKey(t *testing.T) {
	cases := []struct{ private, ephemeral, want int }{
		{77, 5, 628723300}, {1, 1, 1084210035}, {lastKey, lastKey, 20559962}, {0, 0, 1626126822}, {-1, -1, 20559962}, {5, -163, 896026030}, {77, 0, 623723285},
		{math.MinInt, math.MaxInt, 565476758}, {math.MaxInt, math.MinInt, 1081210026}, {math.MaxInt, math.MaxInt, 1084210035}, {math.MinInt, math.MinInt, 562476749},
		{77 + impl.Modulus, 5 - impl.Modulus, 628723300},
	}
	for _, c := range cases {
		checkBoxKey(t, c.private, c.ephemeral, c.want)
	}
}

func TestBoxKeyFollowsItsDefinition(t *testing.T) {
	list := slices.Concat(boxKeys(), notKeys(), hashedInts())
	for _, private := range list {
		for _, ephemeral := range list {
			checkBoxKey(t, private, ephemeral, expectedBoxKey(private, ephemeral))
			if got := impl.BoxKey(private, ephemeral); got != impl.DeriveKey(private, []int{163, ephemeral}) || !isKey(got) {
				t.Errorf("BoxKey(%d, %d) = %d is not the derived key", private, ephemeral, got)
			}
		}
	}
}

// Where the hash is 0, the key is 1, and the box is as good as any other.
func TestBoxKeyIsNeverZero(t *testing.T) {
	for _, ephemeral := range append(boxKeys(), 0, -1, math.MinInt, math.MaxInt) {
		private := keyOfHashZero([]int{151, 163, ephemeral})
		checkKeyedHash(t, 0, private, 151, 163, ephemeral)
		checkBoxKey(t, private, ephemeral, 1)
		checkBoxKey(t, private+impl.Modulus, ephemeral, 1)
		if isKey(ephemeral) {
			b := expectedBox(private, ephemeral, []byte("hi"))
			checkSealed(t, b.To, ephemeral, []byte("hi"), b)
			checkOpened(t, private, b, []byte("hi"))
		}
	}
}

func TestBoxMAC(t *testing.T) {
	cases := []struct {
		key  int
		b    impl.Box
		want int
	}{
		{0, impl.Box{}, 1871687906},
		{1, impl.Box{To: 2, Ephemeral: 3, Data: []byte{4}}, 1721060878},
		{77, impl.Box{To: 3716867, Ephemeral: 5, Data: []byte{1, 2}}, 755208026},
		{-1, impl.Box{To: -1, Ephemeral: -1, Data: []byte{255}}, 1721730703},
		{math.MinInt, impl.Box{To: math.MaxInt, Ephemeral: math.MinInt, Data: []byte{0}}, 1564659290},
		{math.MaxInt, impl.Box{To: math.MinInt, Ephemeral: math.MaxInt, Data: []byte{0, 0}}, 1133180552},
		{5, impl.Box{To: 167, Ephemeral: 167, Data: []byte{167}}, 335693231},
		{1, impl.Box{To: 2, Ephemeral: 3, Data: bytes.Repeat([]byte{4}, 201)}, 2033394939},
		{1, impl.Box{To: 2, Ephemeral: 3, Data: make([]byte, 1000)}, 1606834279},
	}
	for _, c := range cases {
		for _, mac := range []int{0, 1, -1, c.want, math.MinInt, math.MaxInt} {
			c.b.MAC = mac
			checkBoxMAC(t, c.key, c.b, c.want)
		}
	}
}

func TestBoxMACFollowsItsDefinition(t *testing.T) {
	list := append(anyInts(), -7, 77, lastKey, impl.Modulus, -impl.Modulus, impl.Modulus+1)
	for _, key := range list {
		for _, to := range list {
			for _, ephemeral := range list {
				b := impl.Box{To: to, Ephemeral: ephemeral, Data: []byte{1, 0, 255}, MAC: key}
				checkBoxMAC(t, key, b, expectedBoxMAC(key, b))
			}
		}
		for _, data := range slices.Concat(boxedData(), tooLongData(), cipherTexts()) {
			b := impl.Box{To: key, Ephemeral: -5, Data: data, MAC: 9}
			checkBoxMAC(t, key, b, expectedBoxMAC(key, b))
		}
	}
}

func TestBoxMACDependsOnEachPart(t *testing.T) {
	for _, data := range boxedData() {
		b := impl.Box{To: 3716867, Ephemeral: 5, Data: data}
		want := impl.BoxMAC(77, b)
		for _, n := range []int{1, -1, 72, 1000003, impl.Modulus - 1} {
			to, ephemeral := b, b
			to.To += n
			ephemeral.Ephemeral += n
			if impl.BoxMAC(77+n, b) == want || impl.BoxMAC(77, to) == want || impl.BoxMAC(77, ephemeral) == want {
				t.Errorf("BoxMAC of %v does not change with a part greater by %d", b, n)
			}
		}
		for _, other := range changedData(data) {
			if impl.BoxMAC(77, impl.Box{To: 3716867, Ephemeral: 5, Data: other}) == want {
				t.Errorf("BoxMAC of %v is that of %v", data, other)
			}
		}
	}
}

// changedData has a byte changed, a byte more and a byte less, at the first, a middle and the last place.
func changedData(data []byte) [][]byte {
	list := [][]byte{}
	for _, place := range []int{0, len(data) / 2, len(data)} {
		for _, c := range []byte{0, 1, 127, 255} {
			list = append(list, slices.Insert(slices.Clone(data), place, c))
		}
	}
	if len(data) == 0 {
		return list
	}
	for _, place := range []int{0, len(data) / 2, len(data) - 1} {
		list = append(list, slices.Delete(slices.Clone(data), place, place+1))
		for _, difference := range []byte{1, 2, 127, 128, 255} {
			other := slices.Clone(data)
			other[place] += difference
			list = append(list, other)
		}
	}
	return list
}

func TestBoxIsOpened(t *testing.T) {
	for _, private := range boxKeys() {
		for _, ephemeral := range boxKeys() {
			for _, data := range boxedData() {
				checkOpened(t, private, sealed(t, private, ephemeral, data), data)
				checkOpened(t, private, expectedBox(private, ephemeral, data), data)
			}
		}
	}
}

func TestBoxIsOpenedWithNoOtherKey(t *testing.T) {
	strangers := slices.Concat(someKeys(), boxKeys(), notKeys(), anyInts())
	for _, private := range boxKeys() {
		for _, data := range [][]byte{nil, []byte("hi")} {
			b := sealed(t, private, 5, data)
			for _, stranger := range append(strangers, b.To, private+impl.Modulus, private-impl.Modulus, -private) {
				if stranger != private {
					checkNotOpened(t, stranger, b)
				}
			}
		}
	}
}

func TestBoxWithAnotherToIsNotOpened(t *testing.T) {
	others := slices.Concat(publicKeys(boxKeys()...), boxKeys(), notKeys(), anyInts())
	for _, private := range boxKeys() {
		b := sealed(t, private, 5, []byte("hi"))
		public := b.To
		for _, to := range append(others, public+1, public-1, -public, public+impl.Modulus, public-impl.Modulus) {
			if to == public {
				continue
			}
			b.To = to
			checkNotOpened(t, private, b)
			checkNotOpened(t, impl.PrivateKey(to), b)
			checkNotOpened(t, private, forgedBox(private, to, 5, b.Data))
		}
	}
}

func TestBoxWithAnotherEphemeralIsNotOpened(t *testing.T) {
	others := slices.Concat(boxKeys(), someKeys(), notKeys(), anyInts())
	for _, private := range []int{1, 77, lastKey} {
		for _, ephemeral := range []int{1, 5, lastKey} {
			b := sealed(t, private, ephemeral, []byte("hi"))
			for _, other := range append(others, ephemeral+1, ephemeral-1, -ephemeral, ephemeral+impl.Modulus, ephemeral-impl.Modulus) {
				if b.Ephemeral = other; other != ephemeral {
					checkNotOpened(t, private, b)
				}
			}
		}
	}
}

func TestBoxWithAnotherMACIsNotOpened(t *testing.T) {
	for _, private := range boxKeys() {
		for _, data := range boxedData() {
			b := sealed(t, private, 5, data)
			mac := b.MAC
			for _, other := range append(anyInts(), mac+1, mac-1, -mac, mac+impl.Modulus, mac-impl.Modulus, mac^1<<30, b.To, b.Ephemeral, impl.BoxMAC(private, b)) {
				if b.MAC = other; other != mac {
					checkNotOpened(t, private, b)
				}
			}
		}
	}
}

func TestBoxWithChangedDataIsNotOpened(t *testing.T) {
	for _, private := range boxKeys() {
		for _, data := range boxedData() {
			b := sealed(t, private, 5, data)
			for _, other := range changedData(b.Data) {
				b.Data = other
				checkNotOpened(t, private, b)
			}
			if b.Data = data; len(data) > 0 {
				checkNotOpened(t, private, b)
			}
		}
	}
}

func TestBoxWithAnyByteChangedIsNotOpened(t *testing.T) {
	b := sealed(t, 77, 5, patternBytes(200))
	for _, place := range []int{0, 100, 199} {
		for range 255 {
			b.Data[place]++
			checkNotOpened(t, 77, b)
		}
		b.Data[place]++
		checkOpened(t, 77, b, patternBytes(200))
	}
	for place := range b.Data {
		b.Data[place]++
		checkNotOpened(t, 77, b)
		b.Data[place]--
	}
}

// The parts of two boxes of one key do not go together.
func TestMixedBoxIsNotOpened(t *testing.T) {
	for _, pair := range [][2]impl.Box{
		{sealed(t, 77, 5, []byte("hi")), sealed(t, 77, 6, []byte("ho"))},
		{sealed(t, 77, 5, []byte("hi")), sealed(t, 77, 6, []byte("hello"))},
		{sealed(t, 77, lastKey, nil), sealed(t, 77, 1, patternBytes(200))},
	} {
		for range 2 {
			ephemeral, data, mac := pair[0], pair[0], pair[0]
			ephemeral.Ephemeral, data.Data, mac.MAC = pair[1].Ephemeral, pair[1].Data, pair[1].MAC
			checkNotOpened(t, 77, ephemeral)
			checkNotOpened(t, 77, data)
			checkNotOpened(t, 77, mac)
			pair[0], pair[1] = pair[1], pair[0]
		}
	}
}

// The MAC of these boxes is right, also where it is that of a valid key modulo Modulus.
func TestOpenBoxWithAnInvalidKey(t *testing.T) {
	for _, private := range append(notKeys(), anyInts()...) {
		if isKey(private) {
			continue
		}
		for _, to := range []int{0, private, 3716867, impl.PublicKey(1), expectedPublic(private)} {
			for _, ephemeral := range boxKeys() {
				checkNotOpened(t, private, forgedBox(private, to, ephemeral, []byte("hi")))
				checkNotOpened(t, private, forgedBox(private, to, ephemeral, nil))
			}
		}
	}
}

func TestOpenBoxWithAnInvalidEphemeral(t *testing.T) {
	for _, ephemeral := range notKeys() {
		for _, private := range boxKeys() {
			for _, data := range [][]byte{nil, {}, []byte("hi"), patternBytes(200)} {
				checkNotOpened(t, private, forgedBox(private, expectedPublic(private), ephemeral, data))
			}
		}
	}
}

func TestOpenBoxOfTooLongData(t *testing.T) {
	for _, private := range boxKeys() {
		for _, data := range tooLongData() {
			checkNotOpened(t, private, forgedBox(private, expectedPublic(private), 5, data))
		}
		for _, data := range boxedData() {
			b := forgedBox(private, expectedPublic(private), 5, data)
			checkOpened(t, private, b, impl.Decrypt(impl.BoxKey(private, 5), data))
		}
	}
}

func TestOpenBoxOfTheZeroBox(t *testing.T) {
	for _, private := range slices.Concat(boxKeys(), notKeys(), anyInts()) {
		checkNotOpened(t, private, impl.Box{})
		checkNotOpened(t, private, impl.Box{Data: []byte{}})
	}
}

func TestSealBoxes(t *testing.T) {
	checkAllSealed(t, []int{3716867, 3765138, 3716867}, 5, []byte("hi"), []impl.Box{
		{To: 3716867, Ephemeral: 5, Data: []byte{41, 109}, MAC: 1056771091}, expectedBox(78, 6, []byte("hi")), expectedBox(77, 7, []byte("hi")),
	})
	checkAllSealed(t, []int{3765138, 3716867}, 5, []byte("hi"), []impl.Box{
		{To: 3765138, Ephemeral: 5, Data: []byte{52, 120}, MAC: 1618857032}, {To: 3716867, Ephemeral: 6, Data: []byte{13, 81}, MAC: 755353098},
	})
}

// boxedFor are the private keys of lists of boxes: one key, one twice, and more.
func boxedFor() [][]int {
	return [][]int{{77}, {1}, {lastKey}, {77, 77}, {77, 78}, {78, 77}, {77, 78, 77}, {5, 5, 5, 5}, boxKeys(), someKeys()[1990:2050]}
}

func TestSealBoxesFollowsItsDefinition(t *testing.T) {
	for _, privates := range boxedFor() {
		for _, ephemeral := range []int{1, 5, 600, 48271, lastKey + 1 - len(privates)} {
			for _, data := range [][]byte{nil, {}, {7}, []byte("hi"), patternBytes(200)} {
				want := []impl.Box{}
				for i, private := range privates {
					want = append(want, expectedBox(private, ephemeral+i, data))
				}
				checkAllSealed(t, publicKeys(privates...), ephemeral, data, want)
			}
		}
	}
}

func TestSealBoxesAreOpened(t *testing.T) {
	for _, privates := range boxedFor() {
		for _, data := range boxedData() {
			boxes, ok := impl.SealBoxes(publicKeys(privates...), 5, data)
			if !ok || len(boxes) != len(privates) {
				t.Fatalf("SealBoxes for %v = %v, %v", privates, boxes, ok)
			}
			for i, private := range privates {
				checkOpened(t, private, boxes[i], data)
				checkFound(t, boxes, private, data)
			}
			for _, stranger := range append(notKeys(), 79, 1000, 1000004, lastKey-5) {
				checkNotFound(t, boxes, stranger)
			}
		}
	}
}

// No box fails where there is none, so that the other arguments do not count.
func TestSealBoxesForNoKey(t *testing.T) {
	for _, data := range append(boxedData(), tooLongData()...) {
		for _, ephemeral := range append(notKeys(), boxKeys()...) {
			checkAllSealed(t, nil, ephemeral, data, nil)
			checkAllSealed(t, []int{}, ephemeral, data, nil)
		}
	}
}

func TestSealBoxesWithABadKey(t *testing.T) {
	for _, bad := range notKeys() {
		checkNoneSealed(t, []int{bad}, 5, []byte("hi"))
		checkNoneSealed(t, []int{bad, bad}, 5, []byte("hi"))
		for _, size := range []int{1, 2, 5} {
			publics := publicKeys(boxKeys()[:size]...)
			for _, place := range []int{0, size / 2, size} {
				checkNoneSealed(t, slices.Insert(slices.Clone(publics), place, bad), 5, []byte("hi"))
			}
		}
	}
}

func TestSealBoxesWithABadEphemeral(t *testing.T) {
	for _, privates := range boxedFor() {
		publics := publicKeys(privates...)
		for _, ephemeral := range append(notKeys(), impl.Modulus, math.MaxInt-1, math.MinInt+1) {
			checkNoneSealed(t, publics, ephemeral, []byte("hi"))
		}
		for extra := 1; extra < len(publics); extra++ {
			checkNoneSealed(t, publics, lastKey+1-len(publics)+extra, []byte("hi"))
		}
		// These become valid after the first keys.
		for i := range publics {
			checkNoneSealed(t, publics, -i, nil)
		}
	}
}

func TestSealBoxesAtTheLastEphemeral(t *testing.T) {
	for size := 1; size <= 4; size++ {
		publics := publicKeys(boxKeys()[:size]...)
		boxes, ok := impl.SealBoxes(publics, lastKey-size+1, []byte("hi"))
		if !ok || len(boxes) != size || boxes[size-1].Ephemeral != lastKey {
			t.Errorf("SealBoxes of %d keys = %v, %v", size, boxes, ok)
		}
		checkNoneSealed(t, publics, lastKey-size+2, []byte("hi"))
	}
}

func TestSealBoxesOfTooLongData(t *testing.T) {
	for _, privates := range boxedFor() {
		for _, data := range tooLongData() {
			checkNoneSealed(t, publicKeys(privates...), 5, data)
		}
	}
}

func TestFindBox(t *testing.T) {
	hi, ho := []byte("hi"), []byte("ho")
	boxes := []impl.Box{sealed(t, 78, 5, ho), sealed(t, 1, 6, nil), sealed(t, 77, 7, hi), sealed(t, lastKey, 8, ho)}
	checkFound(t, boxes, 78, ho)
	checkFound(t, boxes, 1, nil)
	checkFound(t, boxes, 77, hi)
	checkFound(t, boxes, lastKey, ho)
	for _, stranger := range slices.Concat(notKeys(), anyInts(), someKeys()) {
		if stranger != 77 && stranger != 78 && stranger != 1 && stranger != lastKey {
			checkNotFound(t, boxes, stranger)
		}
	}
}

func TestFindBoxOfSeveral(t *testing.T) {
	list := []impl.Box{sealed(t, 77, 5, []byte("hi")), sealed(t, 78, 6, []byte("x")), sealed(t, 77, 7, []byte("ho")), sealed(t, 77, 8, nil), sealed(t, 77, 5, patternBytes(200))}
	for _, boxes := range arrangements(list, 5) {
		for _, b := range boxes {
			if b.To == 3716867 {
				want, _ := impl.OpenBox(77, b)
				checkFound(t, boxes, 77, want)
				break
			}
		}
		checkFound(t, boxes, 78, []byte("x"))
		checkNotFound(t, boxes, 79)
	}
}

// A box to the key comes first, but its data is empty, which is not the same as no data.
func TestFindBoxWithEmptyData(t *testing.T) {
	for _, empty := range [][]byte{nil, {}} {
		checkFound(t, []impl.Box{sealed(t, 77, 5, empty), sealed(t, 77, 6, []byte("hi"))}, 77, nil)
		checkFound(t, []impl.Box{sealed(t, 78, 5, empty), sealed(t, 77, 6, empty)}, 77, nil)
		checkNotFound(t, []impl.Box{sealed(t, 78, 5, empty)}, 77)
	}
}

// The first boxes are for the key, but each of them is wrong in something.
func TestFindBoxAfterBoxesThatCannotBeOpened(t *testing.T) {
	good := sealed(t, 77, 5, []byte("hi"))
	wrong := []impl.Box{{}, good, good, good, good, forgedBox(77, good.To, 0, []byte{1}), forgedBox(77, good.To, impl.Modulus, nil), forgedBox(77, good.To, 5, patternBytes(201)), forgedBox(77, 1, 5, good.Data)}
	wrong[1].To++
	wrong[2].Ephemeral++
	wrong[3].Data = []byte{good.Data[0], good.Data[1], 0}
	wrong[4].MAC += impl.Modulus
	for size := range len(wrong) + 1 {
		checkNotFound(t, wrong[:size], 77)
		checkFound(t, append(slices.Clone(wrong[:size]), good), 77, []byte("hi"))
		checkFound(t, append(slices.Clone(wrong[:size]), good, sealed(t, 77, 5, []byte("ho"))), 77, []byte("hi"))
		checkFound(t, append([]impl.Box{good}, wrong[:size]...), 77, []byte("hi"))
	}
}

func TestFindBoxInNoBoxes(t *testing.T) {
	for _, private := range slices.Concat(boxKeys(), notKeys(), anyInts()) {
		checkNotFound(t, nil, private)
		checkNotFound(t, []impl.Box{}, private)
		checkNotFound(t, []impl.Box{{}, {}}, private)
	}
}

func TestFindBoxWithAnInvalidKey(t *testing.T) {
	for _, private := range notKeys() {
		boxes := []impl.Box{{}, sealed(t, 77, 5, []byte("hi")), sealed(t, 1, 5, []byte("hi")), sealed(t, lastKey, 5, []byte("hi"))}
		for _, to := range []int{0, private, expectedPublic(private)} {
			boxes = append(boxes, forgedBox(private, to, 5, []byte("hi")))
		}
		checkNotFound(t, boxes, private)
	}
}

func TestEqualBoxes(t *testing.T) {
	boxes := []impl.Box{
		{}, {To: 1}, {Ephemeral: 1}, {MAC: 1}, {Data: []byte{0}}, {Data: []byte{1}}, {Data: []byte{0, 0}}, {Data: []byte{1, 0}}, {Data: []byte{0, 1}},
		{To: -1}, {Ephemeral: -1}, {MAC: -1}, {To: math.MinInt}, {Ephemeral: math.MinInt}, {MAC: math.MinInt}, {To: math.MaxInt}, {Ephemeral: math.MaxInt}, {MAC: math.MaxInt},
		{To: impl.Modulus}, {Ephemeral: impl.Modulus}, {MAC: impl.Modulus}, {To: 1 << 32}, {Ephemeral: 1 << 32}, {MAC: 1 << 32},
		{To: 1, Ephemeral: 2, Data: []byte("hi"), MAC: 3}, {To: 2, Ephemeral: 1, Data: []byte("hi"), MAC: 3}, {To: 3, Ephemeral: 2, Data: []byte("hi"), MAC: 1}, {To: 1, Ephemeral: 3, Data: []byte("hi"), MAC: 2},
		{To: 1, Ephemeral: 2, Data: []byte("ho"), MAC: 3}, {To: 1, Ephemeral: 2, Data: []byte("ii"), MAC: 3}, {To: 1, Ephemeral: 2, Data: []byte("hih"), MAC: 3}, {To: 1, Ephemeral: 2, MAC: 3},
		{Data: patternBytes(200)}, {Data: patternBytes(200)[:199]}, {Data: patternBytes(201)}, {Data: patternBytes(1000)}, {Data: make([]byte, 1000)}, {Data: make([]byte, 1001)},
	}
	copies := cloneBoxes(boxes)
	for i, a := range boxes {
		for j, b := range copies {
			checkEqualBoxes(t, a, b, i == j)
		}
		checkEqualBoxes(t, a, a, true)
	}
}

func TestEqualBoxesInEachField(t *testing.T) {
	for _, private := range boxKeys() {
		for _, data := range boxedData() {
			b := sealed(t, private, 5, data)
			checkEqualBoxes(t, b, expectedBox(private, 5, data), true)
			for _, n := range []int{1, -1, 1 << 31, 1 << 32, impl.Modulus, -impl.Modulus, math.MinInt} {
				to, ephemeral, mac := b, b, b
				to.To += n
				ephemeral.Ephemeral += n
				mac.MAC += n
				checkEqualBoxes(t, b, to, false)
				checkEqualBoxes(t, b, ephemeral, false)
				checkEqualBoxes(t, b, mac, false)
			}
			for _, other := range changedData(b.Data) {
				changed := b
				changed.Data = other
				checkEqualBoxes(t, b, changed, false)
			}
		}
	}
}

func TestEqualBoxesWithoutData(t *testing.T) {
	none, empty := impl.Box{To: 1, Ephemeral: 2, MAC: 3}, impl.Box{To: 1, Ephemeral: 2, Data: []byte{}, MAC: 3}
	checkEqualBoxes(t, none, empty, true)
	checkEqualBoxes(t, none, none, true)
	checkEqualBoxes(t, empty, empty, true)
	checkEqualBoxes(t, impl.Box{}, impl.Box{Data: []byte{}}, true)
	for _, b := range []impl.Box{none, empty} {
		checkEqualBoxes(t, b, impl.Box{To: 1, Ephemeral: 2, Data: []byte{0}, MAC: 3}, false)
		checkEqualBoxes(t, b, impl.Box{To: 1, Ephemeral: 2, Data: make([]byte, 0, 9), MAC: 3}, true)
	}
}

func TestBoxFunctionsIgnoreSpareCapacity(t *testing.T) {
	for _, filler := range []byte{0, 1, 255} {
		data, _ := withSpare(filler, []byte("hi")...)
		checkSealed(t, 3716867, 5, data, impl.Box{To: 3716867, Ephemeral: 5, Data: []byte{41, 109}, MAC: 1056771091})
		ciphertext, _ := withSpare(filler, 41, 109)
		b := impl.Box{To: 3716867, Ephemeral: 5, Data: ciphertext, MAC: 1056771091}
		checkOpened(t, 77, b, []byte("hi"))
		checkBoxMAC(t, 628723300, b, 1056771091)
		checkEqualBoxes(t, b, expectedBox(77, 5, []byte("hi")), true)
		full, _ := withSpare(filler, patternBytes(200)...)
		checkOpened(t, 77, sealed(t, 77, 5, full), full)
		publics, _ := withSpare(int(filler), 3716867, 3765138)
		checkAllSealed(t, publics, 5, data, []impl.Box{b, expectedBox(78, 6, []byte("hi"))})
		boxes, _ := withSpare(b, expectedBox(78, 6, []byte("hi")))
		checkNotFound(t, boxes, 77)
		checkFound(t, boxes, 78, []byte("hi"))
	}
}

// The box is made from memory of its own, also where SealBox fails.
func TestSealBoxIsApartFromItsData(t *testing.T) {
	for _, text := range append(boxedData(), tooLongData()...) {
		for _, public := range []int{3716867, 0} {
			data, array := withSpare(66, text...)
			before := slices.Clone(array)
			b, _ := impl.SealBox(public, 5, data)
			checkApart(t, "SealBox", b.Data, 9, array, before, 5)
		}
	}
}

func TestOpenBoxIsApartFromItsBox(t *testing.T) {
	for _, text := range boxedData() {
		for _, private := range []int{77, 78, 0} {
			b := sealed(t, 77, 5, text)
			data, array := withSpare(66, b.Data...)
			b.Data = data
			before := slices.Clone(array)
			opened, _ := impl.OpenBox(private, b)
			checkApart(t, "OpenBox", opened, 9, array, before, 5)
		}
	}
	data, array := withSpare(66, patternBytes(201)...)
	before := slices.Clone(array)
	opened, _ := impl.OpenBox(77, forgedBox(77, 3716867, 5, data))
	checkApart(t, "OpenBox", opened, 9, array, before, 5)
}

func TestSealBoxesIsApartFromItsArguments(t *testing.T) {
	for _, publics := range [][]int{{3716867}, {3716867, 3716867}, {3716867, 3765138, 48271}, {3716867, 0}, {0}, {}} {
		for _, text := range boxedData() {
			keys, keyArray := withSpare(66, publics...)
			keysBefore := slices.Clone(keyArray)
			data, array := withSpare(66, text...)
			before := slices.Clone(array)
			boxes, _ := impl.SealBoxes(keys, 5, data)
			for _, b := range boxes {
				checkApart(t, "SealBoxes", b.Data, 9, array, before, 5)
				copy(array, before)
			}
			if !slices.Equal(keyArray, keysBefore) || !slices.Equal(array, before) {
				t.Errorf("SealBoxes(%v, 5, %v) changed its arguments", publics, text)
			}
		}
	}
}

func TestSealBoxesShareNoData(t *testing.T) {
	for _, data := range boxedData() {
		boxes, _ := impl.SealBoxes([]int{3716867, 3716867, 3765138}, 5, data)
		for i, b := range boxes {
			for j := range b.Data[:cap(b.Data)] {
				b.Data[:cap(b.Data)][j] = byte(i)
			}
		}
		for i, b := range boxes {
			for _, c := range b.Data[:cap(b.Data)] {
				if c != byte(i) {
					t.Errorf("boxes of %v share their data", data)
				}
			}
		}
	}
}

func TestFindBoxIsApartFromItsBoxes(t *testing.T) {
	for _, text := range boxedData() {
		for _, private := range []int{77, 78, 79, 0} {
			b, other := sealed(t, 77, 5, text), sealed(t, 78, 6, []byte("hi"))
			data, array := withSpare(66, b.Data...)
			b.Data = data
			before := slices.Clone(array)
			boxes, boxArray := withSpare(other, other, b, b)
			boxesBefore := cloneBoxes(boxArray)
			found, _ := impl.FindBox(boxes, private)
			if !sameBoxes(boxArray, boxesBefore) {
				t.Errorf("FindBox changed its boxes to %v", boxArray)
			}
			checkApart(t, "FindBox", found, 9, array, before, 5)
		}
	}
}

func TestBoxMACAndEqualBoxesLeaveTheirBoxes(t *testing.T) {
	for _, text := range slices.Concat(boxedData(), tooLongData()) {
		data, array := withSpare(66, text...)
		before := slices.Clone(array)
		b := impl.Box{To: 3716867, Ephemeral: 5, Data: data, MAC: 7}
		impl.BoxMAC(77, b)
		impl.EqualBoxes(b, b)
		impl.EqualBoxes(b, impl.Box{To: 3716867, Ephemeral: 5, Data: data[:len(data)/2], MAC: 7})
		if !slices.Equal(array, before) {
			t.Errorf("BoxMAC or EqualBoxes changed %v to %v", before, array)
		}
	}
}

func TestResultsOfTwoBoxCallsAreApart(t *testing.T) {
	first, second := sealed(t, 77, 5, []byte("hi")), sealed(t, 77, 5, []byte("hi"))
	clear(first.Data)
	checkOpened(t, 77, second, []byte("hi"))
	opened, _ := impl.OpenBox(77, second)
	again, _ := impl.OpenBox(77, second)
	clear(opened)
	if string(again) != "hi" {
		t.Errorf("two results of OpenBox share memory: %v", again)
	}
	list, _ := impl.SealBoxes([]int{3716867, 3765138}, 5, []byte("hi"))
	other, _ := impl.SealBoxes([]int{3716867, 3765138}, 5, []byte("hi"))
	clear(list[0].Data)
	clear(list)
	if !sameBoxes(other, []impl.Box{expectedBox(77, 5, []byte("hi")), expectedBox(78, 6, []byte("hi"))}) {
		t.Errorf("two results of SealBoxes share memory: %v", other)
	}
}

// Between the two calls with the same arguments there are others, of which nothing may be left.
func TestBoxFunctionsKeepNoState(t *testing.T) {
	b := impl.Box{To: 3716867, Ephemeral: 5, Data: []byte{41, 109}, MAC: 1056771091}
	for range 3 {
		checkSealed(t, 3716867, 5, []byte("hi"), b)
		checkBoxKey(t, 77, 5, 628723300)
		checkBoxMAC(t, 628723300, b, 1056771091)
		checkOpened(t, 77, b, []byte("hi"))
		checkAllSealed(t, []int{3716867}, 5, []byte("hi"), []impl.Box{b})
		checkFound(t, []impl.Box{b}, 77, []byte("hi"))
		checkEqualBoxes(t, b, b, true)
		for _, n := range append(anyInts(), 77, 78) {
			other, _ := impl.SealBox(impl.PublicKey(n), 5, patternBytes(200))
			impl.BoxKey(n, n)
			impl.BoxMAC(n, other)
			impl.OpenBox(n, other)
			impl.SealBoxes([]int{impl.PublicKey(n), 3716867}, 5, patternBytes(199))
			impl.FindBox([]impl.Box{other, b}, n)
			impl.EqualBoxes(b, other)
		}
	}
}

func TestBoxFunctionsReturnForAllArguments(t *testing.T) {
	list := append(anyInts(), lastKey, impl.Modulus, 3716867)
	for _, a := range list {
		for _, b := range list {
			for _, data := range [][]byte{nil, {}, {255}, patternBytes(200), patternBytes(201)} {
				checkAnyBox(t, a, b, data)
			}
		}
	}
}

// checkAnyBox uses a and b in the place of every key.
func checkAnyBox(t *testing.T, a int, b int, data []byte) {
	t.Helper()
	possible := isKey(a) && isKey(b) && len(data) <= 200
	box, ok := impl.SealBox(a, b, data)
	if ok != possible || ok && !sameBox(box, expectedBox(expectedPrivate(a), b, data)) || !ok && !sameBox(box, impl.Box{}) {
		t.Errorf("SealBox(%d, %d, %v) = %v, %v", a, b, data, box, ok)
	}
	if boxes, ok := impl.SealBoxes([]int{a, a}, b, data); ok != (possible && b < lastKey) || ok != (len(boxes) == 2) || len(boxes) > 0 && !sameBox(boxes[0], box) {
		t.Errorf("SealBoxes([%d %d], %d, %v) = %v, %v", a, a, b, data, boxes, ok)
	}
	if opened, ok := impl.OpenBox(impl.PrivateKey(a), box); ok != possible || ok && !bytes.Equal(opened, data) || !ok && len(opened) > 0 {
		t.Errorf("OpenBox(PrivateKey(%d), %v) = %v, %v", a, box, opened, ok)
	}
	other := impl.Box{To: a, Ephemeral: b, Data: data, MAC: b}
	checkNotOpened(t, a, other)
	checkNotFound(t, []impl.Box{other, other}, b)
	checkEqualBoxes(t, other, impl.Box{To: a, Ephemeral: b, Data: data, MAC: a}, a == b)
}
