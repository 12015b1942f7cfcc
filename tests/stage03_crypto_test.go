package tests

import (
	"math"
	"slices"
	"testing"

	"loop.example/g00581/impl"
)

func TestEqualInts(t *testing.T) {
	lists := [][]int{{}, {0}, {1}, {-1}, {0, 0}, {1, 2}, {2, 1}, {1, 2, 3}, {1, 2, 4}, {0, 2, 3}, {1, 0, 3}, {1 << 32}, {math.MaxInt}, {math.MinInt}}
	for i, a := range lists {
		for j, b := range lists {
			if got := impl.EqualInts(slices.Clone(a), slices.Clone(b)); got != (i == j) {
				t.Errorf("EqualInts(%v, %v) = %v", a, b, got)
			}
		}
	}
}

func TestEqualIntsOfNilAndSpare(t *testing.T) {
	if !impl.EqualInts(nil, nil) || !impl.EqualInts(nil, []int{}) || !impl.EqualInts([]int{}, nil) {
		t.Error("nil and empty are equal")
	}
	if impl.EqualInts(nil, []int{0}) || impl.EqualInts([]int{0}, nil) {
		t.Error("nil and one zero are not equal")
	}
	if whole := []int{1, 2, 3}; !impl.EqualInts(whole[:2], []int{1, 2}) || impl.EqualInts(whole[:2], whole) {
		t.Error("the spare capacity counts")
	}
}

func TestEqualIntsLeavesItsArguments(t *testing.T) {
	a, arrayA := withSpare(77, 1, 2)
	b, arrayB := withSpare(66, 1, 3)
	beforeA, beforeB := slices.Clone(arrayA), slices.Clone(arrayB)
	impl.EqualInts(a, b)
	if !slices.Equal(arrayA, beforeA) || !slices.Equal(arrayB, beforeB) {
		t.Error("EqualInts changed its arguments")
	}
}
