package tests

import (
	"math"
	"math/big"
	"strconv"
	"strings"
	"testing"

	"loop.example/g00400/impl"
)

func TestP13Constants(t *testing.T) {
	if impl.MaxAmt != 1<<50 || impl.Million != 1000*1000 {
		t.Errorf("MaxAmt %d, Million %d", impl.MaxAmt, impl.Million)
	}
}

func TestP13AmtOk(t *testing.T) {
	for _, n := range []int{0, 1, 2, impl.Million, top / 2, top - 1, top} {
		if !impl.AmtOk(n) {
			t.Errorf("AmtOk(%d) is false", n)
		}
	}
	for _, n := range []int{-1, -2, -top, -top - 1, top + 1, 2 * top, math.MinInt, math.MinInt + 1, math.MaxInt - 1, math.MaxInt} {
		if impl.AmtOk(n) {
			t.Errorf("AmtOk(%d) is true", n)
		}
	}
}

func TestP13AddAmt(t *testing.T) {
	for _, c := range []struct {
		a, b, want int
		ok         bool
	}{
		{3, 4, 7, true}, {0, 0, 0, true}, {1, 0, 1, true}, {0, 1, 1, true},
		{top, 0, top, true}, {0, top, top, true}, {top - 1, 1, top, true}, {1, top - 1, top, true}, {top / 2, top / 2, top, true},
		{top, 1, 0, false}, {1, top, 0, false}, {top, top, 0, false}, {top - 1, 2, 0, false},
		{-1, 5, 0, false}, {5, -1, 0, false}, {-1, 1, 0, false}, {-top, top, 0, false},
		{top + 1, -1, 0, false}, {-1, top + 1, 0, false}, {top + 1, 0, 0, false}, {0, top + 1, 0, false},
		{math.MaxInt, 1, 0, false}, {math.MaxInt, math.MaxInt, 0, false}, {math.MinInt, math.MinInt, 0, false},
		{math.MinInt, math.MaxInt, 0, false}, {math.MaxInt, math.MinInt + 8, 0, false},
	} {
		if got, ok := impl.AddAmt(c.a, c.b); got != c.want || ok != c.ok {
			t.Errorf("AddAmt(%d, %d) = %d, %v; want %d, %v", c.a, c.b, got, ok, c.want, c.ok)
		}
	}
}

func TestP13SubAmt(t *testing.T) {
	for _, c := range []struct {
		a, b, want int
		ok         bool
	}{
		{7, 4, 3, true}, {4, 4, 0, true}, {0, 0, 0, true}, {1, 0, 1, true}, {1, 1, 0, true},
		{top, top, 0, true}, {top, 0, top, true}, {top, 1, top - 1, true}, {top, top - 1, 1, true},
		{3, 4, 0, false}, {0, 1, 0, false}, {0, top, 0, false}, {top - 1, top, 0, false},
		{-1, -1, 0, false}, {5, -1, 0, false}, {-1, 5, 0, false}, {-top, -top, 0, false},
		{top + 1, 1, 0, false}, {top + 1, top + 1, 0, false}, {top, top + 1, 0, false},
		{math.MinInt, 1, 0, false}, {math.MinInt, math.MinInt, 0, false}, {math.MaxInt, math.MaxInt, 0, false},
		{0, math.MinInt, 0, false}, {math.MinInt, math.MaxInt, 0, false}, {math.MaxInt, math.MaxInt - 5, 0, false},
	} {
		if got, ok := impl.SubAmt(c.a, c.b); got != c.want || ok != c.ok {
			t.Errorf("SubAmt(%d, %d) = %d, %v; want %d, %v", c.a, c.b, got, ok, c.want, c.ok)
		}
	}
}

func TestP13SumsAtEdges(t *testing.T) {
	for _, a := range edges() {
		for _, b := range edges() {
			var add, sub told
			if isAmt(a) && isAmt(b) {
				add = answer(asAmt(big.NewInt(int64(a + b))))
				sub = answer(asAmt(big.NewInt(int64(a - b))))
			}
			if got := answer(impl.AddAmt(a, b)); got != add {
				t.Errorf("AddAmt(%d, %d) = %v; want %v", a, b, got, add)
			}
			if got := answer(impl.SubAmt(a, b)); got != sub {
				t.Errorf("SubAmt(%d, %d) = %v; want %v", a, b, got, sub)
			}
		}
	}
}

func TestP13NumText(t *testing.T) {
	for _, c := range []struct {
		n    int
		want string
	}{
		{0, "0"}, {1, "1"}, {-1, "-1"}, {9, "9"}, {10, "10"}, {-120, "-120"}, {1000000, "1000000"}, {-1000000, "-1000000"},
		{top - 1, "1125899906842623"}, {top, "1125899906842624"}, {top + 1, ""},
		{-top + 1, "-1125899906842623"}, {-top, "-1125899906842624"}, {-top - 1, ""},
		{math.MinInt, ""}, {math.MinInt + 1, ""}, {math.MaxInt, ""},
	} {
		if got := impl.NumText(c.n); got != c.want {
			t.Errorf("NumText(%d) = %q; want %q", c.n, got, c.want)
		}
	}
}

func TestP13TextNum(t *testing.T) {
	for _, c := range []struct {
		s    string
		want int
	}{
		{"0", 0}, {"1", 1}, {"-1", -1}, {"-5", -5}, {"9", 9}, {"10", 10}, {"-10", -10}, {"907", 907}, {"1000000", 1000000},
		{"1125899906842623", top - 1}, {"1125899906842624", top},
		{"-1125899906842623", -top + 1}, {"-1125899906842624", -top},
	} {
		if got, ok := impl.TextNum(c.s); got != c.want || !ok {
			t.Errorf("TextNum(%q) = %d, %v; want %d, true", c.s, got, ok, c.want)
		}
	}
}

func TestP13TextNumWrong(t *testing.T) {
	for _, s := range []string{
		"", "-", "+", "-0", "+0", "+5", "05", "00", "-05", "-00", "--5", "-+5", "5-", "5+",
		" 5", "5 ", " ", "- 5", "5\n", "\n5", "\t5", "5\x00", "\x005",
		"1125899906842625", "-1125899906842625", "2000000000000000", "10000000000000000",
		"9223372036854775807", "9223372036854775808", "-9223372036854775808", "-9223372036854775809",
		"18446744073709551616", "18446744073709551621", "99999999999999999999999999",
		"5x", "x5", "x", "1_000", "_1", "0x10", "0b1", "0o7", "1e3", "1.0", "1,000", "5/", "5:", "/", ":",
		"5\x80", "\xff", "٣", "５", "−5",
		strings.Repeat("0", 5000), strings.Repeat("7", 5000),
	} {
		if got, ok := impl.TextNum(s); got != 0 || ok {
			t.Errorf("TextNum(%q) = %d, %v; want 0, false", s, got, ok)
		}
	}
}

func TestP13NumbersAreReadAsWritten(t *testing.T) {
	for _, n := range edges() {
		s := impl.NumText(n)
		if n < -top || n > top {
			if s != "" {
				t.Errorf("NumText(%d) = %q", n, s)
			}
			if got, ok := impl.TextNum(strconv.Itoa(n)); got != 0 || ok {
				t.Errorf("TextNum of %d = %d, %v", n, got, ok)
			}
			continue
		}
		if got, ok := impl.TextNum(s); s != strconv.Itoa(n) || got != n || !ok {
			t.Errorf("%d: NumText %q, TextNum %d, %v", n, s, got, ok)
		}
	}
}

func TestP13EveryShortText(t *testing.T) {
	letters := "-+019 a"
	texts := []string{""}
	for i := 0; i < len(texts); i++ {
		s := texts[i]
		n, err := strconv.Atoi(s)
		right := err == nil && strconv.Itoa(n) == s
		if !right {
			n = 0
		}
		if got, ok := impl.TextNum(s); got != n || ok != right {
			t.Errorf("TextNum(%q) = %d, %v; want %d, %v", s, got, ok, n, right)
		}
		for j := 0; len(s) < 3 && j < len(letters); j++ {
			texts = append(texts, s+letters[j:j+1])
		}
	}
}

func TestP13WordOk(t *testing.T) {
	for _, s := range []string{"a", "z", "hub", "az", "local", "abcdefg", "abcdefgh", "zzzzzzzz"} {
		if !impl.WordOk(s) {
			t.Errorf("WordOk(%q) is false", s)
		}
	}
	for _, s := range []string{
		"", "abcdefghi", strings.Repeat("a", 1000), "Hub", "huB", "HUB", "hub1", "1", "h b", " hub", "hub ", "hub\n",
		"a-b", "a_b", "`", "{", "a`", "{a", "\x00", "a\x00", "\x80", "\xff", "é", "ß", "ａ", "abcdefgé",
	} {
		if impl.WordOk(s) {
			t.Errorf("WordOk(%q) is true", s)
		}
	}
	for b := 0; b < 256; b++ {
		s := string([]byte{'m', byte(b), 'm'})
		if got, want := impl.WordOk(s), b >= 'a' && b <= 'z'; got != want {
			t.Errorf("WordOk(%q) = %v", s, got)
		}
	}
}

func TestP13Clamp(t *testing.T) {
	for _, c := range []struct{ n, lo, hi, want int }{
		{2, 1, 3, 2}, {0, 1, 3, 1}, {5, 1, 3, 3}, {1, 1, 3, 1}, {3, 1, 3, 3}, {4, 1, 3, 3},
		{7, 7, 7, 7}, {6, 7, 7, 7}, {8, 7, 7, 7}, {-5, -9, -2, -5}, {-10, -9, -2, -9}, {-1, -9, -2, -2},
		{2, 3, 1, 3}, {0, 3, 1, 3}, {1, 3, 1, 3}, {3, 3, 1, 1}, {5, 3, 1, 1},
		{math.MinInt, 0, 10, 0}, {math.MaxInt, 0, 10, 10}, {0, math.MinInt, math.MaxInt, 0},
		{math.MinInt, math.MinInt, math.MaxInt, math.MinInt}, {math.MaxInt, math.MinInt, math.MaxInt, math.MaxInt},
		{0, math.MaxInt, math.MinInt, math.MaxInt}, {math.MaxInt, math.MaxInt, math.MinInt, math.MinInt},
		{top, -top, top - 1, top - 1}, {-top, 0, top, 0},
	} {
		if got := impl.Clamp(c.n, c.lo, c.hi); got != c.want {
			t.Errorf("Clamp(%d, %d, %d) = %d; want %d", c.n, c.lo, c.hi, got, c.want)
		}
	}
}

func TestP13ClampAtEdges(t *testing.T) {
	for _, n := range edges() {
		for _, lo := range edges() {
			for _, hi := range edges() {
				want := n
				switch {
				case n < lo:
					want = lo
				case n > hi:
					want = hi
				}
				if got := impl.Clamp(n, lo, hi); got != want {
					t.Errorf("Clamp(%d, %d, %d) = %d; want %d", n, lo, hi, got, want)
				}
			}
		}
	}
}
