package tests

import (
	"math"
	"strings"
	"testing"

	"loop.example/g00597/impl"
)

func TestFormatInt(t *testing.T) {
	cases := []struct {
		n    int
		want string
	}{
		{0, "0"},
		{7, "7"},
		{-3, "-3"},
		{10, "10"},
		{120, "120"},
		{-1000, "-1000"},
		{impl.MaxValue, "1000000000000"},
		{impl.MaxValue + 1, "1000000000001"},
		{-impl.MaxValue, "-1000000000000"},
		{math.MaxInt, "9223372036854775807"},
		{math.MinInt, "-9223372036854775808"},
	}
	for _, c := range cases {
		if got := impl.FormatInt(c.n); got != c.want {
			t.Errorf("FormatInt(%d) = %q, want %q", c.n, got, c.want)
		}
	}
}

func TestParseIntAccepts(t *testing.T) {
	cases := []struct {
		s    string
		want int
	}{
		{"0", 0},
		{"1", 1},
		{"9", 9},
		{"10", 10},
		{"17", 17},
		{"100", 100},
		{"1002003", 1002003},
		{"123456789", 123456789},
		{"999999999999", 999999999999},
		{"1000000000000", impl.MaxValue},
	}
	for _, c := range cases {
		got, ok := impl.ParseInt(c.s)
		if !ok || got != c.want {
			t.Errorf("ParseInt(%q) = %d, %t, want %d, true", c.s, got, ok, c.want)
		}
	}
}

func TestParseIntRejects(t *testing.T) {
	cases := []string{
		"",
		"-1", "-0", "+1", "+0", "-", "+", "1-", "1+", "--1",
		"00", "017", "01", "000", "0000000000001", "00x",
		" 1", "1 ", " ", "1\n", "1\x00", "\x001", "1 2",
		"1x", "x1", "x", "0x10", "0b1", "0o7", "1e3", "1.0", "1_000", "1,000",
		":", "/", "1:", "1/", "٣", "１", "\xff",
		"1000000000001",
		"1000000000010",
		"9999999999999",
		"10000000000000",
		"9223372036854775807",
		"9223372036854775808",
		"18446744073709551616",
		"18446744073709551617",
		strings.Repeat("9", 1000),
		"1" + strings.Repeat("0", 1000),
		strings.Repeat("0", 1000),
	}
	for _, s := range cases {
		if got, ok := impl.ParseInt(s); ok || got != 0 {
			t.Errorf("ParseInt(%q) = %d, %t, want 0, false", s, got, ok)
		}
	}
}

func TestParseIntInvertsFormatInt(t *testing.T) {
	check := func(n int) {
		got, ok := impl.ParseInt(impl.FormatInt(n))
		inRange := n >= 0 && n <= impl.MaxValue
		if ok != inRange || ok && got != n || !ok && got != 0 {
			t.Errorf("ParseInt(FormatInt(%d)) = %d, %t", n, got, ok)
		}
	}
	for n := -1100; n <= 1100; n++ {
		check(n)
	}
	p := 1
	for range 19 {
		for d := -1; d <= 1; d++ {
			check(p + d)
			check(-p + d)
		}
		p *= 10
	}
	check(math.MaxInt)
	check(math.MinInt)
}

// Every short string over an alphabet of digits and their neighbours is parsed exactly if FormatInt writes it.
func TestParseIntShortStrings(t *testing.T) {
	written := map[string]int{}
	for n := 0; n < 1000; n++ {
		written[impl.FormatInt(n)] = n
	}
	alphabet := "+-/0123456789: "
	var try func(s string)
	try = func(s string) {
		want, wantOk := written[s]
		if got, ok := impl.ParseInt(s); got != want || ok != wantOk {
			t.Errorf("ParseInt(%q) = %d, %t, want %d, %t", s, got, ok, want, wantOk)
		}
		if len(s) == 3 {
			return
		}
		for i := range alphabet {
			try(s + alphabet[i:i+1])
		}
	}
	try("")
}

func TestMinMax(t *testing.T) {
	cases := []struct{ a, b, least, greatest int }{
		{0, 0, 0, 0},
		{1, 2, 1, 2},
		{2, 1, 1, 2},
		{2, -1, -1, 2},
		{-5, -4, -5, -4},
		{7, 7, 7, 7},
		{math.MinInt, math.MaxInt, math.MinInt, math.MaxInt},
		{math.MaxInt, math.MinInt, math.MinInt, math.MaxInt},
		{math.MinInt, 1, math.MinInt, 1},
		{-1, math.MaxInt, -1, math.MaxInt},
		{math.MinInt, 0, math.MinInt, 0},
	}
	for _, c := range cases {
		if got := impl.Min(c.a, c.b); got != c.least {
			t.Errorf("Min(%d, %d) = %d, want %d", c.a, c.b, got, c.least)
		}
		if got := impl.Max(c.a, c.b); got != c.greatest {
			t.Errorf("Max(%d, %d) = %d, want %d", c.a, c.b, got, c.greatest)
		}
	}
}

func TestCeilDiv(t *testing.T) {
	const top = impl.MaxValue
	cases := []struct{ a, b, want int }{
		{7, 3, 3},
		{6, 3, 2},
		{8, 3, 3},
		{0, 1, 0},
		{0, 5, 0},
		{1, 1, 1},
		{1, 2, 1},
		{1, top, 1},
		{top, 1, top},
		{top, top, 1},
		{top, top - 1, 2},
		{top - 1, top, 1},
		{top, 7, 142857142858},
		{1, 0, 0},
		{0, 0, 0},
		{1, -1, 0},
		{6, -3, 0},
		{-1, 2, 0},
		{-7, 3, 0},
		{-6, -3, 0},
		{top + 1, 1, 0},
		{top + 1, 2, 0},
		{5, top + 1, 0},
		{top, top + 1, 0},
		{math.MaxInt, 1, 0},
		{math.MaxInt, math.MaxInt, 0},
		{math.MinInt, -1, 0},
		{math.MinInt, 1, 0},
		{1, math.MinInt, 0},
	}
	for _, c := range cases {
		if got := impl.CeilDiv(c.a, c.b); got != c.want {
			t.Errorf("CeilDiv(%d, %d) = %d, want %d", c.a, c.b, got, c.want)
		}
	}
}

func TestMod(t *testing.T) {
	const top = impl.MaxValue
	cases := []struct{ p, q, want int }{
		{-1, 7, 6},
		{15, 7, 1},
		{0, 7, 0},
		{7, 7, 0},
		{6, 7, 6},
		{-7, 7, 0},
		{-8, 7, 6},
		{-14, 7, 0},
		{-15, 7, 6},
		{5, 1, 0},
		{-5, 1, 0},
		{top, top, 0},
		{top + 1, top, 1},
		{-1, top, top - 1},
		{math.MaxInt, 10, 7},
		{math.MinInt, 10, 2},
		{math.MaxInt, top, 36854775807},
		{math.MinInt, top, 963145224192},
		{math.MinInt, 1, 0},
		{3, 0, 0},
		{-3, 0, 0},
		{3, -7, 0},
		{-3, -7, 0},
		{math.MinInt, -1, 0},
		{3, top + 1, 0},
		{-1, top + 1, 0},
		{3, math.MaxInt, 0},
		{3, math.MinInt, 0},
	}
	for _, c := range cases {
		if got := impl.Mod(c.p, c.q); got != c.want {
			t.Errorf("Mod(%d, %d) = %d, want %d", c.p, c.q, got, c.want)
		}
	}
}

func TestInRange(t *testing.T) {
	cases := []struct {
		n, low, high int
		want         bool
	}{
		{2, 2, 3, true},
		{3, 2, 3, true},
		{1, 2, 3, false},
		{4, 2, 3, false},
		{5, 5, 5, true},
		{4, 5, 5, false},
		{6, 5, 5, false},
		{-2, -3, -1, true},
		{-4, -3, -1, false},
		{0, -3, -1, false},
		{5, 6, 4, false},
		{6, 6, 4, false},
		{4, 6, 4, false},
		{0, math.MinInt, math.MaxInt, true},
		{math.MinInt, math.MinInt, math.MaxInt, true},
		{math.MaxInt, math.MinInt, math.MaxInt, true},
		{math.MinInt, math.MinInt + 1, math.MaxInt, false},
		{math.MaxInt, math.MinInt, math.MaxInt - 1, false},
		{math.MaxInt, math.MinInt, -1, false},
		{math.MinInt, 1, math.MaxInt, false},
	}
	for _, c := range cases {
		if got := impl.InRange(c.n, c.low, c.high); got != c.want {
			t.Errorf("InRange(%d, %d, %d) = %t, want %t", c.n, c.low, c.high, got, c.want)
		}
	}
}

func TestMaxValue(t *testing.T) {
	if impl.MaxValue != 1000000000000 {
		t.Errorf("MaxValue = %d", impl.MaxValue)
	}
}
