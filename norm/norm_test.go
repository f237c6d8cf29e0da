package norm_test

import (
	"bytes"
	"math"
	"math/rand"
	"slices"
	"strings"
	"testing"

	"warrantor/cur"
	"warrantor/norm"
)

const words = "abcdefghijklmnopqrstuvwxyzABCDEFGHIJKLMNOPQRSTUVWXYZ0123456789_."

func TestParts(t *testing.T) {
	for _, c := range []struct {
		s     string
		parts []string
		norm  string
	}{
		{"", nil, ""},
		{"   ", nil, ""},
		{"i", []string{"i"}, "i"},
		{"i - n <= 0", []string{"i", "-", "n", "<", "=", "0"}, "i-n<=0"},
		{"i  -n<= a b", []string{"i", "-", "n", "<", "=", "a", "b"}, "i-n<=a b"},
		{" a   b ", []string{"a", "b"}, "a b"},
		{"a.b_9 Z", []string{"a.b_9", "Z"}, "a.b_9 Z"},
		{"a\tb", []string{"a", "\t", "b"}, "a\tb"},
		{"a\nb", []string{"a", "\n", "b"}, "a\nb"},
		{"+ -", []string{"+", "-"}, "+-"},
		{"a + b", []string{"a", "+", "b"}, "a+b"},
		{"é", []string{"\xc3", "\xa9"}, "é"},
		{"\xff a", []string{"\xff", "a"}, "\xffa"},
		{"a \x00 b", []string{"a", "\x00", "b"}, "a\x00b"},
		{words, []string{words}, words},
		{"a-", []string{"a", "-"}, "a-"},
		{"-a", []string{"-", "a"}, "-a"},
		{"a@b[c`d{e/f:g^", []string{"a", "@", "b", "[", "c", "`", "d", "{", "e", "/", "f", ":", "g", "^"}, "a@b[c`d{e/f:g^"},
	} {
		if got := norm.Parts(c.s); !slices.Equal(got, c.parts) {
			t.Errorf("Parts(%q) = %q, want %q", c.s, got, c.parts)
		}
		if got := norm.Norm(c.s); got != c.norm {
			t.Errorf("Norm(%q) = %q, want %q", c.s, got, c.norm)
		}
	}
	for c := range 256 {
		s := string([]byte{byte(c)})
		want := []string{s}
		if c == 32 {
			want = nil
		}
		if got := norm.Parts(s); !slices.Equal(got, want) {
			t.Errorf("Parts(%q) = %q", s, got)
		}
		twice := 2
		if strings.Contains(words, s) && c < 128 {
			twice = 1
		} else if c == 32 {
			twice = 0
		}
		if got := norm.Parts(s + s); len(got) != twice {
			t.Errorf("Parts(%q) = %q", s+s, got)
		}
	}
}

// slow tells parts by going from byte to byte.
func slow(s string) []string {
	var l []string
	open := false
	for i := range len(s) {
		c := s[i : i+1]
		word := s[i] < 128 && strings.Contains(words, c)
		switch {
		case word && open:
			l[len(l)-1] += c
		case c != " ":
			l = append(l, c)
		}
		open = word
	}
	return l
}

func chance(r *rand.Rand) string {
	b := make([]byte, r.Intn(10))
	for i := range b {
		b[i] = "ab1._  -<\xc3"[r.Intn(10)]
	}
	return string(b)
}

func TestChance(t *testing.T) {
	r := rand.New(rand.NewSource(1))
	same := 0
	for range 30000 {
		a, b := chance(r), chance(r)
		if r.Intn(2) == 0 { // the same parts with other blanks
			b = strings.Join(norm.Parts(a), strings.Repeat(" ", r.Intn(3)))
		}
		p, q := slow(a), slow(b)
		n := norm.Norm(a)
		if !slices.Equal(norm.Parts(a), p) || norm.Norm(n) != n || !slices.Equal(norm.Parts(n), p) {
			t.Fatalf("%q: %q, %q", a, norm.Parts(a), n)
		}
		if len(n) > len(a) || strings.Contains(n, "  ") || strings.Trim(n, " ") != n {
			t.Fatalf("the norm of %q is %q", a, n)
		}
		is := slices.Equal(p, q)
		if norm.Same(a, b) != is || (n == norm.Norm(b)) != is {
			t.Fatalf("Same(%q, %q)", a, b)
		}
		if is {
			same++
		}
	}
	if same < 1000 {
		t.Error(same)
	}
}

func TestKey(t *testing.T) {
	want := func(kind uint64, fn, expr string) []byte {
		p := cur.New()
		p.U(kind)
		p.Text(fn)
		p.Text(expr)
		return p.Bytes()
	}
	for _, c := range []struct {
		kind     int
		fn, expr string
		want     []byte
	}{
		{1, "main", "i - n", want(1, "main", "i-n")},
		{1, "ma in", " i -  n", want(1, "ma in", "i-n")},
		{0, "", "", []byte{0, 0, 0}},
		{-1, "", "", []byte{0, 0, 0}},
		{math.MinInt, "f", "a  b", []byte{0, 1, 'f', 3, 'a', ' ', 'b'}},
		{300, "f", "x", []byte{172, 2, 1, 'f', 1, 'x'}},
		{math.MaxInt, "f", "x", want(math.MaxInt, "f", "x")},
	} {
		if got := norm.Key(c.kind, c.fn, c.expr); !bytes.Equal(got, c.want) {
			t.Errorf("Key(%d, %q, %q) = %v", c.kind, c.fn, c.expr, got)
		}
	}
	// Unlike kinds, functions, or norms have unlike keys.
	seen := map[string]string{}
	for _, kind := range []int{0, 1, 2, 127, 128, 300} {
		for _, fn := range []string{"", "a", "a\x01", "ab", " ", "a b", "\x01a"} {
			for _, expr := range []string{"", "a", "b", "ab", "a b", "\x01a", "a-b", "a - b", "  a"} {
				id := strings.Join([]string{string(rune(kind)), fn, norm.Norm(expr)}, "\x00")
				key := string(norm.Key(kind, fn, expr))
				if old, ok := seen[key]; ok && old != id {
					t.Errorf("%q and %q have one key", old, id)
				}
				seen[key] = id
			}
		}
	}
}
