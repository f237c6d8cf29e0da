package val_test

import (
	"math"
	"math/big"
	"strconv"
	"strings"
	"testing"

	"warrantor/api"
	"warrantor/val"
)

const top = api.MaxVal

// ends are numbers at which something begins or ends.
var ends = []int{0, 1, -1, 7, -12, top - 1, top, top + 1, 2*top - 1, 2 * top, 1 - top, -top, -top - 1, -2 * top, 1 << 50, math.MaxInt, math.MinInt, math.MinInt + 1}

// near is Clip by comparison alone.
func near(n int) int {
	if n > top {
		return top
	}
	if n < -top {
		return -top
	}
	return n
}

func TestIsClipNeg(t *testing.T) {
	for _, n := range ends {
		if val.Is(n) != (n <= top && n >= -top) || val.Clip(n) != near(n) || val.Neg(n) != -near(n) {
			t.Errorf("%d: %v, %d, %d", n, val.Is(n), val.Clip(n), val.Neg(n))
		}
		if val.Clip(val.Clip(n)) != val.Clip(n) || val.Neg(val.Neg(n)) != val.Clip(n) {
			t.Errorf("%d is clipped, or turned, twice", n)
		}
		for _, m := range ends {
			if n <= m && val.Clip(n) > val.Clip(m) {
				t.Errorf("the order of %d, %d", n, m)
			}
		}
	}
	if val.Clip(1<<50) != 1<<40 || val.Show(1<<50) != "inf" {
		t.Error("the example")
	}
}

func TestAddSum(t *testing.T) {
	for _, a := range ends {
		for _, b := range ends {
			exact := new(big.Int).Add(big.NewInt(int64(near(a))), big.NewInt(int64(near(b)))).Int64()
			want, ok := int(exact), exact <= top && exact >= -top
			if !ok {
				want = 0
			}
			if n, is := val.Add(a, b); n != want || is != ok {
				t.Errorf("Add(%d, %d) = %d, %v", a, b, n, is)
			}
			if n := val.Sum(a, b); n != near(int(exact)) {
				t.Errorf("Sum(%d, %d) = %d", a, b, n)
			}
		}
	}
}

func TestShowParse(t *testing.T) {
	for _, c := range []struct {
		n int
		s string
	}{
		{0, "0"}, {7, "7"}, {-7, "-7"}, {10, "10"}, {-100, "-100"}, {1099511627775, "1099511627775"}, {-1099511627775, "-1099511627775"}, {top, "inf"}, {-top, "-inf"},
	} {
		if s := val.Show(c.n); s != c.s {
			t.Errorf("Show(%d) = %q", c.n, s)
		}
		if n, e := val.Parse(c.s); n != c.n || e != api.OK {
			t.Errorf("Parse(%q) = %d, %d", c.s, n, e)
		}
	}
	for _, n := range ends {
		if m, e := val.Parse(val.Show(n)); m != near(n) || e != api.OK {
			t.Errorf("%d is shown as %q", n, val.Show(n))
		}
	}
	for n := -1100; n <= 1100; n++ {
		if val.Show(n) != strconv.Itoa(n) {
			t.Errorf("%d is shown as %q", n, val.Show(n))
		}
	}
}

func TestParseWrong(t *testing.T) {
	for _, s := range []string{
		"", "-", "--1", "+1", "-0", "00", "007", "-01", "1-", " 1", "1 ", "1.0", "0x1", "1e3", "a", "١", "1١", "Inf", "INF", "+inf", "--inf", "inf ", "-in", "infinity", "1_0", "1\x00", "\xff", "-\xff",
		"1099511627776", "-1099511627776", "1099511627777", "9999999999999", "18446744073709551616", "-18446744073709551617", strings.Repeat("9", 100), "1" + strings.Repeat("0", 5000),
	} {
		if n, e := val.Parse(s); n != 0 || e != api.ErrVal {
			t.Errorf("Parse(%q) = %d, %d", s, n, e)
		}
	}
}

// What is parsed is shown as it was: all short texts of these bytes.
func TestParseShow(t *testing.T) {
	l := []string{""}
	for range 5 {
		var next []string
		for _, s := range l {
			for _, c := range []string{"-", "0", "1", "9", "i", "n", "f", " "} {
				next = append(next, s+c)
			}
		}
		for _, s := range next {
			want, err := strconv.Atoi(s)
			is := err == nil && strconv.Itoa(want) == s
			if s == "inf" || s == "-inf" {
				is, want = true, map[string]int{"inf": top, "-inf": -top}[s]
			}
			n, e := val.Parse(s)
			if (e == api.OK) != is || is && (n != want || val.Show(n) != s) {
				t.Fatalf("Parse(%q) = %d, %d", s, n, e)
			}
		}
		l = next
	}
}
