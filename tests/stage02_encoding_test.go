package tests

import (
	"bytes"
	"encoding/binary"
	"math"
	"slices"
	"testing"

	"loop.example/g00581/impl"
)

// encodableInts are the integers around every change of length, around MaxValue, and some between them.
func encodableInts() []int {
	list := []int{impl.MaxValue}
	for n := 0; n <= 300; n++ {
		list = append(list, n, impl.MaxValue-n)
	}
	for power := 2; power < impl.MaxValue; power *= 2 {
		list = append(list, power-1, power, power+1)
	}
	for n := 0; n <= impl.MaxValue; n += 1234567891 {
		list = append(list, n)
	}
	return list
}

func unencodableInts() []int {
	return []int{-1, -2, -128, -impl.MaxValue, math.MinInt, impl.MaxValue + 1, impl.MaxValue + 128, 1 << 40, 1 << 42, 1 << 62, math.MaxInt}
}

func badOffsets(b []byte) []int {
	return []int{-1, -2, -len(b) - 1, math.MinInt, math.MinInt + 1, len(b) + 1, len(b) + 2, len(b) + 100, math.MaxInt - 1, math.MaxInt}
}

// zeroLast has the given number of bytes, the last of which is a group of zero.
func zeroLast(length int) []byte {
	b := bytes.Repeat([]byte{128}, length)
	b[length-1] = 0
	return b
}

func checkUvarint(t *testing.T, b []byte, offset int, want int, wantNext int) {
	t.Helper()
	if n, next, ok := impl.ReadUvarint(b, offset); !ok || n != want || next != wantNext {
		t.Errorf("ReadUvarint(%v, %d) = %d, %d, %v, want %d, %d, true", b, offset, n, next, ok, want, wantNext)
	}
}

func checkNoUvarint(t *testing.T, b []byte, offset int) {
	t.Helper()
	if n, next, ok := impl.ReadUvarint(b, offset); ok || n != 0 || next != 0 {
		t.Errorf("ReadUvarint(%v, %d) = %d, %d, %v, want 0, 0, false", b, offset, n, next, ok)
	}
}

func checkBytes(t *testing.T, b []byte, offset int, maxLen int, want []byte, wantNext int) {
	t.Helper()
	if data, next, ok := impl.ReadBytes(b, offset, maxLen); !ok || !bytes.Equal(data, want) || next != wantNext {
		t.Errorf("ReadBytes(%v, %d, %d) = %v, %d, %v, want %v, %d, true", b, offset, maxLen, data, next, ok, want, wantNext)
	}
}

func checkNoBytes(t *testing.T, b []byte, offset int, maxLen int) {
	t.Helper()
	if data, next, ok := impl.ReadBytes(b, offset, maxLen); ok || len(data) != 0 || next != 0 {
		t.Errorf("ReadBytes(%v, %d, %d) = %v, %d, %v, want nothing, 0, false", b, offset, maxLen, data, next, ok)
	}
}

func checkInts(t *testing.T, b []byte, offset int, count int, want []int, wantNext int) {
	t.Helper()
	if values, next, ok := impl.DecodeInts(b, offset, count); !ok || !slices.Equal(values, want) || next != wantNext {
		t.Errorf("DecodeInts(%v, %d, %d) = %v, %d, %v, want %v, %d, true", b, offset, count, values, next, ok, want, wantNext)
	}
}

func checkNoInts(t *testing.T, b []byte, offset int, count int) {
	t.Helper()
	if values, next, ok := impl.DecodeInts(b, offset, count); ok || len(values) != 0 || next != 0 {
		t.Errorf("DecodeInts(%v, %d, %d) = %v, %d, %v, want nothing, 0, false", b, offset, count, values, next, ok)
	}
}

func TestAppendUvarint(t *testing.T) {
	cases := []struct {
		b    []byte
		n    int
		want []byte
	}{
		{nil, 300, []byte{172, 2}},
		{nil, 0, []byte{0}},
		{nil, 1, []byte{1}},
		{nil, 127, []byte{127}},
		{nil, 128, []byte{128, 1}},
		{nil, 16383, []byte{255, 127}},
		{nil, 16384, []byte{128, 128, 1}},
		{nil, impl.MaxValue, []byte{128, 160, 148, 165, 141, 29}},
		{[]byte{}, 5, []byte{5}},
		{[]byte{9}, 300, []byte{9, 172, 2}},
		{[]byte{255, 0, 128}, 0, []byte{255, 0, 128, 0}},
	}
	for _, c := range cases {
		if got := impl.AppendUvarint(c.b, c.n); !bytes.Equal(got, c.want) {
			t.Errorf("AppendUvarint(%v, %d) = %v, want %v", c.b, c.n, got, c.want)
		}
	}
	for _, n := range encodableInts() {
		want := binary.AppendUvarint([]byte{7, 200}, uint64(n))
		if got := impl.AppendUvarint([]byte{7, 200}, n); !bytes.Equal(got, want) {
			t.Errorf("AppendUvarint([7 200], %d) = %v, want %v", n, got, want)
		}
	}
}

func TestAppendUvarintOutOfRange(t *testing.T) {
	for _, n := range unencodableInts() {
		for _, b := range [][]byte{nil, {}, {9}, {172, 2}} {
			if got := impl.AppendUvarint(b, n); !bytes.Equal(got, b) {
				t.Errorf("AppendUvarint(%v, %d) = %v, want %v", b, n, got, b)
			}
		}
	}
}

func TestReadUvarintOfAppendUvarint(t *testing.T) {
	front := []byte{128, 0, 255}
	for _, n := range encodableInts() {
		alone := impl.AppendUvarint(nil, n)
		checkUvarint(t, alone, 0, n, len(alone))
		behind := impl.AppendUvarint(front, n)
		checkUvarint(t, behind, len(front), n, len(behind))
		checkUvarint(t, append(slices.Clone(behind), 0, 128), len(front), n, len(behind))
		checkUvarint(t, append(slices.Clone(behind), 255), len(front), n, len(behind))
	}
}

func TestReadUvarintExamples(t *testing.T) {
	checkUvarint(t, []byte{172, 2}, 0, 300, 2)
	checkUvarint(t, []byte{172, 2}, 1, 2, 2)
	checkNoUvarint(t, []byte{128, 0}, 0)
	checkUvarint(t, []byte{128, 0}, 1, 0, 2)
	checkUvarint(t, []byte{0}, 0, 0, 1)
	checkUvarint(t, []byte{0, 0}, 0, 0, 1)
}

func TestReadUvarintNonMinimal(t *testing.T) {
	for length := 2; length <= 8; length++ {
		checkNoUvarint(t, zeroLast(length), 0)
		checkNoUvarint(t, append([]byte{1}, zeroLast(length)...), 1)
		checkNoUvarint(t, append(zeroLast(length), 1), 0)
	}
	checkNoUvarint(t, []byte{129, 0}, 0)
	checkNoUvarint(t, []byte{255, 0}, 0)
	checkNoUvarint(t, []byte{172, 130, 0}, 0)
	checkNoUvarint(t, []byte{255, 255, 255, 255, 255, 0}, 0)
	// A zero group is only wrong as the last one.
	checkUvarint(t, []byte{128, 1}, 0, 128, 2)
	checkUvarint(t, []byte{129, 128, 1}, 0, 16385, 3)
	checkUvarint(t, []byte{128, 128, 128, 128, 128, 1}, 0, 1<<35, 6)
}

func TestReadUvarintCutOff(t *testing.T) {
	for _, n := range encodableInts() {
		whole := binary.AppendUvarint(nil, uint64(n))
		for length := range whole {
			checkNoUvarint(t, whole[:length], 0)
			checkNoUvarint(t, append([]byte{3}, whole[:length]...), 1)
		}
	}
	for length := 0; length <= 10; length++ {
		checkNoUvarint(t, bytes.Repeat([]byte{128}, length), 0)
		checkNoUvarint(t, bytes.Repeat([]byte{255}, length), 0)
	}
	// The bytes behind the end belong to the array and not to the input.
	checkNoUvarint(t, []byte{172, 2}[:1], 0)
	checkNoUvarint(t, []byte{172, 2}[:0], 0)
}

func TestReadUvarintTooLong(t *testing.T) {
	checkUvarint(t, []byte{128, 128, 128, 128, 128, 1}, 0, 1<<35, 6)
	for length := 6; length <= 20; length++ {
		for _, group := range []byte{128, 129, 255} {
			for _, last := range []byte{1, 2, 64, 127} {
				checkNoUvarint(t, append(bytes.Repeat([]byte{group}, length), last), 0)
			}
		}
	}
	// These would wrap around to small integers if more groups were taken.
	checkNoUvarint(t, []byte{133, 128, 128, 128, 128, 128, 128, 128, 128, 2}, 0)
	checkNoUvarint(t, []byte{133, 128, 128, 128, 128, 128, 128, 128, 128, 128, 1}, 0)
}

func TestReadUvarintBeyondMaxValue(t *testing.T) {
	checkUvarint(t, []byte{128, 160, 148, 165, 141, 29}, 0, impl.MaxValue, 6)
	checkNoUvarint(t, []byte{129, 160, 148, 165, 141, 29}, 0)
	checkNoUvarint(t, []byte{128, 160, 148, 165, 141, 30}, 0)
	checkNoUvarint(t, []byte{255, 255, 255, 255, 255, 127}, 0)
	for n := 1; n <= 300; n++ {
		checkNoUvarint(t, binary.AppendUvarint(nil, uint64(impl.MaxValue+n)), 0)
	}
	for n := impl.MaxValue + 1; n < 1<<42; n += 12345678912 {
		checkNoUvarint(t, binary.AppendUvarint([]byte{4}, uint64(n)), 1)
	}
}

func TestReadUvarintOffsets(t *testing.T) {
	for _, b := range [][]byte{nil, {}, {5}, {172, 2}, {1, 2, 3, 4, 5, 6, 7, 8}} {
		checkNoUvarint(t, b, len(b))
		for _, offset := range badOffsets(b) {
			checkNoUvarint(t, b, offset)
		}
		for offset := range b {
			if b[offset] < 128 {
				checkUvarint(t, b, offset, int(b[offset]), offset+1)
			}
		}
	}
	// An offset beyond the length stays invalid where the array has bytes.
	checkNoUvarint(t, []byte{1, 2, 3}[:1], 1)
	checkNoUvarint(t, []byte{1, 2, 3}[:1], 2)
}

func TestEveryReadIntegerHasOneEncoding(t *testing.T) {
	for first := 0; first < 256; first++ {
		for second := 0; second < 256; second++ {
			for _, third := range []byte{0, 1, 127, 128, 255} {
				b := []byte{byte(first), byte(second), third}
				n, next, ok := impl.ReadUvarint(b, 0)
				if ok && !bytes.Equal(binary.AppendUvarint(nil, uint64(n)), b[:next]) {
					t.Errorf("ReadUvarint(%v, 0) = %d, %d, true", b, n, next)
				}
				want, length := binary.Uvarint(b)
				if minimal := length == 1 || length > 1 && b[length-1] != 0; ok != minimal || ok && (n != int(want) || next != length) {
					t.Errorf("ReadUvarint(%v, 0) = %d, %d, %v", b, n, next, ok)
				}
			}
		}
	}
}

func TestAppendBytes(t *testing.T) {
	long := bytes.Repeat([]byte{6}, 300)
	cases := []struct{ b, data, want []byte }{
		{[]byte{1}, []byte{7, 8}, []byte{1, 2, 7, 8}},
		{nil, []byte{7, 8}, []byte{2, 7, 8}},
		{nil, nil, []byte{0}},
		{[]byte{}, []byte{}, []byte{0}},
		{[]byte{5}, nil, []byte{5, 0}},
		{nil, []byte{0}, []byte{1, 0}},
		{nil, []byte{255, 128}, []byte{2, 255, 128}},
		{nil, long, append([]byte{172, 2}, long...)},
		{long, long, append(append(slices.Clone(long), 172, 2), long...)},
	}
	for _, c := range cases {
		if got := impl.AppendBytes(c.b, c.data); !bytes.Equal(got, c.want) {
			t.Errorf("AppendBytes(%v, %v) = %v, want %v", c.b, c.data, got, c.want)
		}
	}
}

func TestReadBytesOfAppendBytes(t *testing.T) {
	front := []byte{130, 0, 9}
	for _, length := range []int{0, 1, 2, 126, 127, 128, 129, 300, 16383, 16384, 20000} {
		data := make([]byte, length)
		for i := range data {
			data[i] = byte(i*7 + length)
		}
		alone := impl.AppendBytes(nil, data)
		checkBytes(t, alone, 0, length, data, len(alone))
		behind := impl.AppendBytes(front, data)
		checkBytes(t, behind, len(front), length, data, len(behind))
		checkBytes(t, behind, len(front), length+1, data, len(behind))
		checkBytes(t, behind, len(front), math.MaxInt, data, len(behind))
		checkBytes(t, append(slices.Clone(behind), 1, 2, 3), len(front), length, data, len(behind))
		checkNoBytes(t, behind, len(front), length-1)
		checkNoBytes(t, behind, len(front), -1)
		checkNoBytes(t, behind, len(front), math.MinInt)
		checkNoBytes(t, behind[:len(behind)-1], len(front), length)
	}
}

func TestReadBytesOneAfterTheOther(t *testing.T) {
	b := impl.AppendBytes(impl.AppendBytes(impl.AppendBytes(nil, []byte{7, 8}), nil), []byte{9})
	checkBytes(t, b, 0, 2, []byte{7, 8}, 3)
	checkBytes(t, b, 3, 0, nil, 4)
	checkBytes(t, b, 4, 1, []byte{9}, 6)
	checkNoBytes(t, b, 6, 1)
}

func TestReadBytesWithoutLength(t *testing.T) {
	checkNoBytes(t, []byte{128}, 0, 10)
	checkNoBytes(t, []byte{128, 0}, 0, 10)
	checkNoBytes(t, []byte{130, 0, 7, 8}, 0, 10)
	checkNoBytes(t, []byte{130, 128, 128, 128, 128, 128, 1, 7, 8}, 0, math.MaxInt)
	checkNoBytes(t, binary.AppendUvarint(nil, impl.MaxValue+1), 0, math.MaxInt)
	for _, b := range [][]byte{nil, {}, {0}, {2, 7, 8}, {1, 1, 1, 1}} {
		checkNoBytes(t, b, len(b), 10)
		for _, offset := range badOffsets(b) {
			checkNoBytes(t, b, offset, 10)
			checkNoBytes(t, b, offset, -1)
		}
	}
}

func TestReadBytesTooShort(t *testing.T) {
	checkNoBytes(t, []byte{1}, 0, 10)
	checkNoBytes(t, []byte{3, 7, 8}, 0, 10)
	checkNoBytes(t, []byte{9, 3, 7, 8}, 1, 10)
	checkNoBytes(t, []byte{172, 2, 7}, 0, 1000)
	checkNoBytes(t, impl.AppendUvarint(nil, impl.MaxValue), 0, math.MaxInt)
	checkNoBytes(t, impl.AppendUvarint(nil, impl.MaxValue), 0, impl.MaxValue)
	// The bytes behind the end belong to the array and not to the input.
	checkNoBytes(t, []byte{2, 7, 8}[:2], 0, 10)
	checkNoBytes(t, []byte{2, 7, 8}[:1], 0, 10)
}

func TestReadBytesMaxLen(t *testing.T) {
	b := []byte{1, 2, 7, 8}
	checkBytes(t, b, 1, 2, []byte{7, 8}, 4)
	checkBytes(t, b, 1, 3, []byte{7, 8}, 4)
	checkNoBytes(t, b, 1, 1)
	checkNoBytes(t, b, 1, 0)
	checkNoBytes(t, b, 1, -1)
	checkBytes(t, []byte{0}, 0, 0, nil, 1)
	checkNoBytes(t, []byte{0}, 0, -1)
	checkNoBytes(t, []byte{0}, 0, math.MinInt)
}

func TestEncodeInts(t *testing.T) {
	cases := []struct {
		values []int
		want   []byte
	}{
		{nil, nil},
		{[]int{}, nil},
		{[]int{0}, []byte{0}},
		{[]int{5, 300}, []byte{5, 172, 2}},
		{[]int{300, 5}, []byte{172, 2, 5}},
		{[]int{0, 0, 128}, []byte{0, 0, 128, 1}},
		{[]int{impl.MaxValue, 1}, []byte{128, 160, 148, 165, 141, 29, 1}},
		{[]int{-1}, nil},
		{[]int{5, -1, 300}, []byte{5, 172, 2}},
		{[]int{-1, 5, impl.MaxValue + 1, 300, math.MinInt}, []byte{5, 172, 2}},
		{unencodableInts(), nil},
	}
	for _, c := range cases {
		if got := impl.EncodeInts(c.values); !bytes.Equal(got, c.want) {
			t.Errorf("EncodeInts(%v) = %v, want %v", c.values, got, c.want)
		}
	}
	var want []byte
	for _, n := range encodableInts() {
		want = binary.AppendUvarint(want, uint64(n))
	}
	if got := impl.EncodeInts(encodableInts()); !bytes.Equal(got, want) {
		t.Error("EncodeInts is not the concatenation of the varints")
	}
}

func TestDecodeIntsOfEncodeInts(t *testing.T) {
	front := []byte{128, 0, 255}
	for values := range slices.Chunk(encodableInts(), 100) {
		alone := impl.EncodeInts(values)
		checkInts(t, alone, 0, len(values), values, len(alone))
		behind := append(slices.Clone(front), alone...)
		checkInts(t, behind, len(front), len(values), values, len(behind))
		checkInts(t, append(slices.Clone(behind), 200), len(front), len(values), values, len(behind))
	}
}

func TestDecodeIntsPrefixes(t *testing.T) {
	b := []byte{9, 5, 172, 2, 0}
	checkInts(t, b, 1, 0, nil, 1)
	checkInts(t, b, 1, 1, []int{5}, 2)
	checkInts(t, b, 1, 2, []int{5, 300}, 4)
	checkInts(t, b, 1, 3, []int{5, 300, 0}, 5)
	checkNoInts(t, b, 1, 4)
	checkInts(t, b, 2, 1, []int{300}, 4)
	checkInts(t, b, 3, 2, []int{2, 0}, 5)
}

func TestDecodeIntsCount(t *testing.T) {
	b := make([]byte, 200)
	checkInts(t, b, 0, 0, nil, 0)
	checkInts(t, b, 0, 99, make([]int, 99), 99)
	checkInts(t, b, 0, 100, make([]int, 100), 100)
	checkInts(t, b, 100, 100, make([]int, 100), 200)
	for _, count := range []int{-1, -2, -100, math.MinInt, 101, 102, 200, math.MaxInt} {
		checkNoInts(t, b, 0, count)
		checkNoInts(t, b, len(b), count)
		checkNoInts(t, nil, 0, count)
	}
}

func TestDecodeIntsOffsets(t *testing.T) {
	for _, b := range [][]byte{nil, {}, {5}, {128}, {1, 2, 3}} {
		checkInts(t, b, len(b), 0, nil, len(b))
		checkInts(t, b, 0, 0, nil, 0)
		checkNoInts(t, b, len(b), 1)
		for _, offset := range badOffsets(b) {
			checkNoInts(t, b, offset, 0)
			checkNoInts(t, b, offset, 1)
		}
	}
	checkNoInts(t, []byte{1, 2, 3}[:1], 2, 0)
}

func TestDecodeIntsWithABadVarint(t *testing.T) {
	bad := [][]byte{
		{128},
		{128, 0},
		{255, 255},
		{128, 128, 128, 128, 128, 128, 1},
		binary.AppendUvarint(nil, impl.MaxValue+1),
	}
	for _, last := range bad {
		b := append([]byte{5, 172, 2}, last...)
		checkInts(t, b, 0, 2, []int{5, 300}, 3)
		checkNoInts(t, b, 0, 3)
		checkNoInts(t, b, 3, 1)
		checkInts(t, b, 3, 0, nil, 3)
	}
	checkNoInts(t, []byte{5, 128, 0, 7}, 0, 3)
	checkNoInts(t, []byte{5, 172, 2}[:2], 0, 2)
}

func TestEqualBytes(t *testing.T) {
	lists := [][]byte{{}, {0}, {1}, {0, 0}, {1, 2}, {2, 1}, {1, 2, 3}, {1, 2, 4}, {0, 2, 3}, {1, 0, 3}, {255}, {127}}
	for i, a := range lists {
		for j, b := range lists {
			if got := impl.EqualBytes(slices.Clone(a), slices.Clone(b)); got != (i == j) {
				t.Errorf("EqualBytes(%v, %v) = %v", a, b, got)
			}
		}
	}
	if !impl.EqualBytes(nil, nil) || !impl.EqualBytes(nil, []byte{}) || !impl.EqualBytes([]byte{}, nil) {
		t.Error("nil and empty are equal")
	}
	if impl.EqualBytes(nil, []byte{0}) || impl.EqualBytes([]byte{0}, nil) {
		t.Error("nil and one zero are not equal")
	}
	if whole := []byte{1, 2, 3}; !impl.EqualBytes(whole[:2], []byte{1, 2}) || impl.EqualBytes(whole[:2], whole) {
		t.Error("the spare capacity counts")
	}
}

// withSpare returns the values with spare capacity behind them, and the whole array.
func withSpare[T any](filler T, values ...T) ([]T, []T) {
	whole := slices.Clone(values)
	for range 16 {
		whole = append(whole, filler)
	}
	return whole[:len(values)], whole
}

// checkApart overwrites all memory of the result and expects the array of the argument to stay as it was before the call,
// then overwrites that array and expects the result to stay.
func checkApart[R comparable, A comparable](t *testing.T, name string, result []R, fill R, array []A, before []A, other A) {
	t.Helper()
	if !slices.Equal(array, before) {
		t.Errorf("%s changed its argument to %v", name, array)
	}
	full := result[:cap(result)]
	for i := range full {
		full[i] = fill
	}
	if !slices.Equal(array, before) {
		t.Errorf("the result of %s shares memory with its argument", name)
	}
	for i := range array {
		array[i] = other
	}
	for _, r := range full {
		if r != fill {
			t.Errorf("the result of %s shares memory with its argument", name)
		}
	}
}

func TestAppendingLeavesItsArguments(t *testing.T) {
	for _, values := range [][]byte{{}, {1}, {1, 2, 3}} {
		for _, n := range []int{5, 300, impl.MaxValue, -1, impl.MaxValue + 1} {
			b, array := withSpare(77, values...)
			before := slices.Clone(array)
			checkApart(t, "AppendUvarint", impl.AppendUvarint(b, n), 99, array, before, 55)
		}
		for _, content := range [][]byte{{}, {7}, {7, 8, 9}} {
			b, array := withSpare(77, values...)
			before := slices.Clone(array)
			data, dataArray := withSpare(66, content...)
			dataBefore := slices.Clone(dataArray)
			checkApart(t, "AppendBytes", impl.AppendBytes(b, data), 99, array, before, 55)
			checkApart(t, "AppendBytes", impl.AppendBytes(b, data), 99, dataArray, dataBefore, 55)
		}
	}
}

func TestAppendBytesOfOverlappingArguments(t *testing.T) {
	array := []byte{1, 2, 3, 4, 5, 6}
	// The data lies where an append to the first argument itself would write.
	if got := impl.AppendBytes(array[:2], array[2:5]); !bytes.Equal(got, []byte{1, 2, 3, 3, 4, 5}) {
		t.Errorf("AppendBytes = %v", got)
	}
	if got := impl.AppendBytes(array[:3], array[:3]); !bytes.Equal(got, []byte{1, 2, 3, 3, 1, 2, 3}) {
		t.Errorf("AppendBytes = %v", got)
	}
	if !bytes.Equal(array, []byte{1, 2, 3, 4, 5, 6}) {
		t.Errorf("AppendBytes changed its arguments to %v", array)
	}
}

func TestReadingLeavesItsArguments(t *testing.T) {
	for _, values := range [][]byte{{}, {0}, {1, 7}, {3, 7, 8, 9}, {2, 7, 8, 9, 10}, {5, 7}, {128, 0}} {
		b, array := withSpare(77, values...)
		before := slices.Clone(array)
		impl.ReadUvarint(b, 0)
		data, _, _ := impl.ReadBytes(b, 0, 10)
		checkApart(t, "ReadBytes", data, 99, array, before, 55)

		b, array = withSpare(77, values...)
		decoded, _, _ := impl.DecodeInts(b, 0, 2)
		checkApart(t, "DecodeInts", decoded, 99, array, before, 55)
	}
}

func TestEncodeIntsLeavesItsArgument(t *testing.T) {
	for _, values := range [][]int{{}, {1}, {5, 300, impl.MaxValue}, {-1, 5, impl.MaxValue + 1}} {
		list, array := withSpare(77, values...)
		before := slices.Clone(array)
		checkApart(t, "EncodeInts", impl.EncodeInts(list), 99, array, before, 55)
	}
}

func TestEqualBytesLeavesItsArguments(t *testing.T) {
	a, arrayA := withSpare[byte](77, 1, 2)
	b, arrayB := withSpare[byte](66, 1, 3)
	beforeA, beforeB := slices.Clone(arrayA), slices.Clone(arrayB)
	impl.EqualBytes(a, b)
	if !bytes.Equal(arrayA, beforeA) || !bytes.Equal(arrayB, beforeB) {
		t.Error("EqualBytes changed its arguments")
	}
}

func TestResultsOfTwoCallsAreApart(t *testing.T) {
	b := []byte{2, 7, 8}
	first, _, _ := impl.ReadBytes(b, 0, 2)
	second, _, _ := impl.ReadBytes(b, 0, 2)
	first[0] = 99
	if !bytes.Equal(second, []byte{7, 8}) {
		t.Error("two results of ReadBytes share memory")
	}
	one := impl.AppendUvarint(b, 5)
	two := impl.AppendUvarint(b, 6)
	if !bytes.Equal(one, []byte{2, 7, 8, 5}) || !bytes.Equal(two, []byte{2, 7, 8, 6}) {
		t.Error("two results of AppendUvarint share memory")
	}
}
