package tests

import (
	"math"
	"strconv"
	"strings"
	"testing"

	"loop.example/g00581/impl"
)

func TestMaxValue(t *testing.T) {
	if impl.MaxValue != 1000000000000 {
		t.Errorf("MaxValue is %d", impl.MaxValue)
	}
}

func TestFormatInt(t *testing.T) {
	cases := []struct {
		n    int
		want string
	}{
		{0, "0"},
		{7, "7"},
		{10, "10"},
		{120, "120"},
		{-1, "-1"},
		{-3, "-3"},
		{-120, "-120"},
		{impl.MaxValue, "1000000000000"},
		{-impl.MaxValue, "-1000000000000"},
		{math.MaxInt, "9223372036854775807"},
		{math.MinInt, "-9223372036854775808"},
	}
	for _, c := range cases {
		if got := impl.FormatInt(c.n); got != c.want {
			t.Errorf("FormatInt(%d) = %q, want %q", c.n, got, c.want)
		}
	}
}

func checkParsed(t *testing.T, s string, want int) {
	t.Helper()
	if n, ok := impl.ParseInt(s); !ok || n != want {
		t.Errorf("ParseInt(%q) = %d, %v, want %d, true", s, n, ok, want)
	}
}

func checkRejected(t *testing.T, s string) {
	t.Helper()
	if n, ok := impl.ParseInt(s); ok || n != 0 {
		t.Errorf("ParseInt(%q) = %d, %v, want 0, false", s, n, ok)
	}
}

func TestParseIntOfFormatInt(t *testing.T) {
	for n := 0; n <= 20000; n++ {
		checkParsed(t, impl.FormatInt(n), n)
	}
	for n := 0; n <= 100; n++ {
		checkParsed(t, impl.FormatInt(impl.MaxValue-n), impl.MaxValue-n)
	}
	for power := 1; power <= impl.MaxValue; power *= 10 {
		for _, n := range []int{power - 1, power, power + 1} {
			if n <= impl.MaxValue {
				checkParsed(t, impl.FormatInt(n), n)
			}
		}
	}
	for n := 0; n <= impl.MaxValue; n += 98765432123 {
		checkParsed(t, impl.FormatInt(n), n)
	}
}

func TestParseIntAccepts(t *testing.T) {
	checkParsed(t, "0", 0)
	checkParsed(t, "9", 9)
	checkParsed(t, "10", 10)
	checkParsed(t, "17", 17)
	checkParsed(t, "120", 120)
	checkParsed(t, "999999999999", 999999999999)
	checkParsed(t, "1000000000000", impl.MaxValue)
}

func TestParseIntRejectsSigns(t *testing.T) {
	for _, s := range []string{"-1", "+1", "-0", "+0", "-", "+", "--1", "-17", "+17", "1-", "-1000000000000", "+1000000000000"} {
		checkRejected(t, s)
	}
}

func TestParseIntRejectsLeadingZeros(t *testing.T) {
	for _, s := range []string{"017", "00", "01", "007", "000", "01000000000000", "0000000000000000000000001"} {
		checkRejected(t, s)
	}
}

func TestParseIntRejectsOtherTexts(t *testing.T) {
	cases := []string{
		"", " ", "x", "1x", "x1", "1x1", " 1", "1 ", "1\n", "\t1", "1\x00", "\x00",
		"1_000", "1,000", "1.0", "1.", ".1", "1e3", "0x1", "0b1", "0o1",
		"\u0661", "1\u0661", "\uff11", "\xff", "1\xff", "/", ":", "1/", "1:",
	}
	for _, s := range cases {
		checkRejected(t, s)
	}
}

func TestParseIntRejectsTooLarge(t *testing.T) {
	cases := []string{
		"1000000000001", "1000000000010", "2000000000000", "9999999999999", "10000000000000",
		"9223372036854775807", "9223372036854775808", "-9223372036854775808", "-9223372036854775809",
		// These would wrap around to 0, 1, 17 and MaxValue.
		"18446744073709551616", "18446744073709551617", "18446744073709551633", "18446745073709551616",
		strings.Repeat("9", 100), strings.Repeat("1", 100000), "1" + strings.Repeat("0", 64), strings.Repeat("0", 100),
	}
	for _, s := range cases {
		checkRejected(t, s)
	}
	for n := 1; n <= 100; n++ {
		checkRejected(t, strconv.Itoa(impl.MaxValue+n))
		checkRejected(t, strconv.Itoa(-n))
	}
}

func TestMinAndMax(t *testing.T) {
	cases := []struct{ a, b, low, high int }{
		{2, -1, -1, 2},
		{-1, 2, -1, 2},
		{1, 2, 1, 2},
		{2, 1, 1, 2},
		{5, 5, 5, 5},
		{0, 0, 0, 0},
		{-3, -7, -7, -3},
		{0, 4, 0, 4},
		{0, -4, -4, 0},
		{math.MinInt, math.MaxInt, math.MinInt, math.MaxInt},
		{math.MaxInt, math.MinInt, math.MinInt, math.MaxInt},
		{math.MinInt, math.MinInt, math.MinInt, math.MinInt},
		{math.MaxInt, math.MaxInt, math.MaxInt, math.MaxInt},
		{math.MinInt, 0, math.MinInt, 0},
		{0, math.MaxInt, 0, math.MaxInt},
	}
	for _, c := range cases {
		if got := impl.Min(c.a, c.b); got != c.low {
			t.Errorf("Min(%d, %d) = %d, want %d", c.a, c.b, got, c.low)
		}
		if got := impl.Max(c.a, c.b); got != c.high {
			t.Errorf("Max(%d, %d) = %d, want %d", c.a, c.b, got, c.high)
		}
	}
}

func TestCeilDiv(t *testing.T) {
	const most = impl.MaxValue
	cases := []struct{ a, b, want int }{
		{7, 3, 3},
		{6, 3, 2},
		{1, 3, 1},
		{0, 3, 0},
		{0, 1, 0},
		{1, 1, 1},
		{most, 1, most},
		{most, 2, most / 2},
		{most, 3, 333333333334},
		{most, most, 1},
		{most - 1, most, 1},
		{1, most, 1},
		{0, most, 0},
		{most, most - 1, 2},
	}
	for _, c := range cases {
		if got := impl.CeilDiv(c.a, c.b); got != c.want {
			t.Errorf("CeilDiv(%d, %d) = %d, want %d", c.a, c.b, got, c.want)
		}
	}
}

func TestCeilDivIsTheLeastCover(t *testing.T) {
	for a := 0; a <= 60; a++ {
		for b := 1; b <= 60; b++ {
			got := impl.CeilDiv(a, b)
			if got*b < a || (got-1)*b >= a {
				t.Errorf("CeilDiv(%d, %d) = %d", a, b, got)
			}
		}
	}
}

func TestCeilDivInvalid(t *testing.T) {
	const most = impl.MaxValue
	cases := []struct{ a, b int }{
		{-1, 1},
		{-1, 2},
		{-7, 3},
		{most + 1, 1},
		{most + 1, most},
		{math.MinInt, 1},
		{math.MaxInt, 1},
		{1, 0},
		{0, 0},
		{7, -3},
		{7, -1},
		{most, most + 1},
		{7, math.MinInt},
		{7, math.MaxInt},
		{-1, -1},
		{-7, -3},
		{-1, 0},
		{math.MinInt, -1},
		{math.MinInt, math.MinInt},
		{math.MaxInt, math.MaxInt},
	}
	for _, c := range cases {
		if got := impl.CeilDiv(c.a, c.b); got != 0 {
			t.Errorf("CeilDiv(%d, %d) = %d, want 0", c.a, c.b, got)
		}
	}
}

func TestMod(t *testing.T) {
	const most = impl.MaxValue
	cases := []struct{ p, q, want int }{
		{-1, 7, 6},
		{15, 7, 1},
		{7, 7, 0},
		{-7, 7, 0},
		{-8, 7, 6},
		{0, 7, 0},
		{5, 1, 0},
		{-5, 1, 0},
		{most, most, 0},
		{most + 1, most, 1},
		{-1, most, most - 1},
		{-most, most, 0},
		{math.MinInt, 1, 0},
		{math.MinInt, 7, 6},
		{math.MinInt, most, 963145224192},
		{math.MinInt + 1, most, 963145224193},
		{math.MaxInt, 1, 0},
		{math.MaxInt, 7, 0},
		{math.MaxInt, most, 36854775807},
	}
	for _, c := range cases {
		if got := impl.Mod(c.p, c.q); got != c.want {
			t.Errorf("Mod(%d, %d) = %d, want %d", c.p, c.q, got, c.want)
		}
	}
}

func TestModIsARemainder(t *testing.T) {
	for p := -60; p <= 60; p++ {
		for q := 1; q <= 20; q++ {
			got := impl.Mod(p, q)
			if got < 0 || got >= q || (p-got)%q != 0 {
				t.Errorf("Mod(%d, %d) = %d", p, q, got)
			}
		}
	}
}

func TestModInvalid(t *testing.T) {
	for _, p := range []int{math.MinInt, -impl.MaxValue, -3, -1, 0, 1, 3, impl.MaxValue, impl.MaxValue + 1, math.MaxInt} {
		for _, q := range []int{math.MinInt, -impl.MaxValue, -7, -1, 0, impl.MaxValue + 1, math.MaxInt} {
			if got := impl.Mod(p, q); got != 0 {
				t.Errorf("Mod(%d, %d) = %d, want 0", p, q, got)
			}
		}
	}
}

func TestInRange(t *testing.T) {
	cases := []struct {
		n, low, high int
		want         bool
	}{
		{2, 2, 3, true},
		{3, 2, 3, true},
		{1, 2, 3, false},
		{4, 2, 3, false},
		{2, 2, 2, true},
		{1, 2, 2, false},
		{3, 2, 2, false},
		{-2, -3, -1, true},
		{0, -3, -1, false},
		{0, math.MinInt, math.MaxInt, true},
		{math.MinInt, math.MinInt, math.MaxInt, true},
		{math.MaxInt, math.MinInt, math.MaxInt, true},
		{math.MinInt, math.MinInt + 1, math.MaxInt, false},
		{math.MaxInt, math.MinInt, math.MaxInt - 1, false},
	}
	for _, c := range cases {
		if got := impl.InRange(c.n, c.low, c.high); got != c.want {
			t.Errorf("InRange(%d, %d, %d) = %v, want %v", c.n, c.low, c.high, got, c.want)
		}
	}
}

func TestInRangeWithLowAboveHigh(t *testing.T) {
	for n := 0; n <= 5; n++ {
		if impl.InRange(n, 3, 2) || impl.InRange(n, 4, 1) {
			t.Errorf("%d is in an empty range", n)
		}
	}
	for _, n := range []int{math.MinInt, -1, 0, 1, math.MaxInt} {
		if impl.InRange(n, math.MaxInt, math.MinInt) {
			t.Errorf("%d is in an empty range", n)
		}
	}
}
