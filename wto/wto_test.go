package wto_test

import (
	"math"
	"math/rand"
	"slices"
	"strconv"
	"strings"
	"testing"

	"warrantor/api"
	"warrantor/wto"
)

func order(points, spans []int) api.Wto { return api.Wto{Points: points, Spans: spans} }

// nest is the order of n components in one another.
func nest(n int) api.Wto {
	var w api.Wto
	for i := range n {
		w.Points = append(w.Points, i)
		w.Spans = append(w.Spans, n-i)
	}
	return w
}

// row is the order of n plain entries.
func row(n int) api.Wto {
	var w api.Wto
	for i := range n {
		w.Points = append(w.Points, i)
		w.Spans = append(w.Spans, 0)
	}
	return w
}

// heads tells the heads of the entry at a place, by asking of each entry whether its component reaches it.
func heads(w api.Wto, at int) []int {
	var l []int
	for i := range at + 1 {
		if w.Spans[i] > at-i {
			l = append(l, w.Points[i])
		}
	}
	return l
}

// chance is any order.
func chance(r *rand.Rand) api.Wto {
	n := r.Intn(12)
	w := order(r.Perm(128)[:n], make([]int, n))
	var fill func(from, to, deep int)
	fill = func(from, to, deep int) {
		for from < to {
			size := 1 + r.Intn(to-from)
			if r.Intn(2) == 0 && deep < 5 {
				w.Spans[from] = size
				fill(from+1, from+size, deep+1)
				from += size
			} else {
				from++
			}
		}
	}
	fill(0, n, 0)
	return w
}

var example = order([]int{1, 2, 3, 4, 5, 6}, []int{0, 4, 0, 2, 0, 0})

func TestCheck(t *testing.T) {
	many := row(129)
	manySpans := order(row(2).Points, row(129).Spans)
	deepWrong := nest(65)
	deepWrong.Points[3] = 2
	for k, c := range []struct {
		w api.Wto
		e api.Errno
	}{
		{order(nil, nil), api.OK},
		{example, api.OK},
		{row(128), api.OK},
		{nest(64), api.OK},
		{order([]int{127, 0}, []int{2, 1}), api.OK},
		{many, api.ErrLong},
		{manySpans, api.ErrLong},
		{order(many.Points, nil), api.ErrLong},
		{nest(65), api.ErrLong},
		{nest(128), api.ErrLong},
		{deepWrong, api.ErrWto},
		{order([]int{0}, nil), api.ErrWto},
		{order(nil, []int{0}), api.ErrWto},
		{order([]int{0, 1}, []int{0}), api.ErrWto},
		{order([]int{-1}, []int{0}), api.ErrWto},
		{order([]int{128}, []int{0}), api.ErrWto},
		{order([]int{math.MinInt}, []int{0}), api.ErrWto},
		{order([]int{3, 3}, []int{0, 0}), api.ErrWto},
		{order([]int{3}, []int{-1}), api.ErrWto},
		{order([]int{3}, []int{2}), api.ErrWto},
		{order([]int{3}, []int{math.MaxInt}), api.ErrWto},
		{order([]int{3, 4}, []int{0, math.MaxInt}), api.ErrWto},
		{order([]int{3, 4}, []int{0, math.MinInt}), api.ErrWto},
		{order([]int{1, 2, 3}, []int{2, 2, 0}), api.ErrWto}, // not whole within the outer one
		{order([]int{1, 2, 3}, []int{3, 2, 1}), api.OK},
		{order([]int{1, 2, 3}, []int{1, 2, 1}), api.OK},
		{order([]int{1, 2, 3, 4}, []int{3, 2, 2, 0}), api.ErrWto},
	} {
		e := wto.Check(c.w)
		if e != c.e {
			t.Errorf("%d: Check tells %d, want %d", k, e, c.e)
		}
		s, e := wto.Show(c.w)
		if e != c.e || e != api.OK && s != "" {
			t.Errorf("%d: Show tells %q, %d, want %d", k, s, e, c.e)
		}
		if c.e == api.OK || len(c.w.Points) == 0 {
			continue
		}
		at, ok := wto.Place(c.w, c.w.Points[0])
		if at != 0 || ok || len(wto.Heads(c.w, c.w.Points[0])) != 0 || wto.Depth(c.w) != 0 || wto.In(c.w, c.w.Points[0], c.w.Points[0]) {
			t.Errorf("%d: what is no order has places", k)
		}
	}
}

func TestPlaces(t *testing.T) {
	r := rand.New(rand.NewSource(1))
	orders := []api.Wto{example, nest(64), row(128), order(nil, nil)}
	for range 300 {
		orders = append(orders, chance(r))
	}
	for _, w := range orders {
		most := 0
		for at, p := range w.Points {
			want := heads(w, at)
			most = max(most, len(want))
			if place, ok := wto.Place(w, p); place != at || !ok {
				t.Fatalf("Place(%v, %d) = %d, %v", w, p, place, ok)
			}
			if got := wto.Heads(w, p); !slices.Equal(got, want) {
				t.Fatalf("Heads(%v, %d) = %v, want %v", w, p, got, want)
			}
			for _, h := range append(slices.Clone(w.Points), -1, 128) {
				if wto.In(w, h, p) != slices.Contains(want, h) {
					t.Fatalf("In(%v, %d, %d)", w, h, p)
				}
			}
		}
		if wto.Depth(w) != most {
			t.Fatalf("Depth(%v) = %d, want %d", w, wto.Depth(w), most)
		}
		for p := -2; p < 130; p++ {
			if slices.Contains(w.Points, p) {
				continue
			}
			if place, ok := wto.Place(w, p); place != 0 || ok || len(wto.Heads(w, p)) != 0 {
				t.Fatalf("%v has %d", w, p)
			}
		}
	}
	if !slices.Equal(wto.Heads(example, 5), []int{2, 4}) {
		t.Error("the example:", wto.Heads(example, 5))
	}
}

func TestShowParse(t *testing.T) {
	for _, c := range []struct {
		w api.Wto
		s string
	}{
		{order(nil, nil), ""},
		{order([]int{0}, []int{0}), "0"},
		{order([]int{7}, []int{1}), "(7)"},
		{order([]int{127, 10}, []int{0, 0}), "127 10"},
		{example, "1 (2 3 (4 5)) 6"},
		{order([]int{3, 2, 1}, []int{3, 2, 1}), "(3 (2 (1)))"},
		{order([]int{3, 2, 1}, []int{1, 1, 1}), "(3) (2) (1)"},
		{order([]int{3, 2, 1}, []int{3, 1, 0}), "(3 (2) 1)"},
	} {
		if s, e := wto.Show(c.w); s != c.s || e != api.OK {
			t.Errorf("Show(%v) = %q, %d", c.w, s, e)
		}
		if w, n, e := wto.Parse(c.s); !wto.Same(w, c.w) || n != len(c.s) || e != api.OK {
			t.Errorf("Parse(%q) = %v, %d, %d", c.s, w, n, e)
		}
	}
	r := rand.New(rand.NewSource(2))
	for range 500 {
		w := chance(r)
		s, _ := wto.Show(w)
		if got, n, e := wto.Parse(s); !wto.Same(got, w) || n != len(s) || e != api.OK {
			t.Fatalf("%v is shown as %q, and parsed as %v", w, s, got)
		}
	}
	s, _ := wto.Show(row(128))
	if w, _, e := wto.Parse(s); e != api.OK || len(w.Points) != 128 {
		t.Error("all points:", e)
	}
	s, _ = wto.Show(nest(64))
	if w, _, e := wto.Parse(s); e != api.OK || wto.Depth(w) != 64 {
		t.Error("as deep as can be:", e)
	}
}

func TestParseWrong(t *testing.T) {
	open := ""
	for i := range 64 {
		open += "(" + strconv.Itoa(i) + " "
	}
	for _, c := range []struct {
		s  string
		at int
	}{
		{" ", 0}, {" 1", 0}, {"1 ", 2}, {"1  2", 2}, {"1 2 ", 4}, {"1\n", 1}, {"1,2", 1}, {"-1", 0}, {"x", 0}, {"1x", 1}, {"1 x", 2}, {"12x", 2},
		{"(", 1}, {")", 0}, {"()", 1}, {"( 1)", 1}, {"((1))", 1}, {"(1", 2}, {"(1 ", 3}, {"(1 )", 3}, {"1)", 1}, {"(1))", 3}, {"(1)2", 3}, {"(1)(2)", 3}, {"1(2)", 1}, {"(1 (2)", 6}, {"(1(2))", 2}, {"(1 2", 4},
		{"00", 1}, {"01", 1}, {"(01)", 2}, {"1 00", 3}, {"0 00", 3}, {"0 0", 2}, {"0 01", 3}, {"1 1", 2}, {"1 12 1", 5}, {"1 12 12x", 5}, {"12 (12)", 4}, {"(1 1)", 3},
		{"128", 0}, {"1 128", 2}, {"1000", 0}, {"(200)", 1}, {"1 99999999999999999999999999", 2}, {"3 128x", 2}, {"1٣", 1}, {"٣", 0}, {"inf", 0}, {"+1", 0}, {"1 -0", 2},
		{open + "(64", len(open)}, {open + "()", len(open)}, {open + "64", len(open) + 2},
		{"(1 2) 2", 6}, {"1 2 3 2 1", 6},
	} {
		if w, at, e := wto.Parse(c.s); at != c.at || e != api.ErrWto || len(w.Points) != 0 || len(w.Spans) != 0 {
			t.Errorf("Parse(%q) = %v, %d, %d, want %d", c.s, w, at, e, c.at)
		}
	}
	for _, c := range []struct {
		s  string
		at int
		e  api.Errno
	}{
		{strings.Repeat("(", 4096), 1, api.ErrWto},
		{"1" + strings.Repeat(" ", 4095), 2, api.ErrWto},
		{strings.Repeat("1", 4096), 0, api.ErrWto},
		{strings.Repeat("1", 4097), 0, api.ErrLong},
		{strings.Repeat(" ", 1<<20), 0, api.ErrLong},
	} {
		if w, at, e := wto.Parse(c.s); at != c.at || e != c.e || len(w.Points) != 0 {
			t.Errorf("Parse of %d bytes = %d, %d, want %d, %d", len(c.s), at, e, c.at, c.e)
		}
	}
}

// What is parsed is shown as it was; where a byte that is no digit is wrong, no further byte helps.
func TestParseChance(t *testing.T) {
	r := rand.New(rand.NewSource(3))
	right, wrong := 0, 0
	for range 40000 {
		b := make([]byte, r.Intn(9))
		for i := range b {
			b[i] = "0123 ()  "[r.Intn(9)]
		}
		s := string(b)
		w, at, e := wto.Parse(s)
		if e == api.OK {
			right++
			if back, _ := wto.Show(w); back != s || at != len(s) {
				t.Fatalf("%q is shown as %q", s, back)
			}
			continue
		}
		wrong++
		if at > len(s) || len(w.Points) != 0 || e != api.ErrWto {
			t.Fatalf("Parse(%q) = %v, %d, %d", s, w, at, e)
		}
		if at < len(s) && (s[at] < '0' || s[at] > '9') {
			if _, at2, e := wto.Parse(s[:at+1] + "7"); e == api.OK || at2 > at+1 {
				t.Fatalf("Parse(%q) tells %d, but cut off there it is right", s, at)
			}
		}
	}
	if right < 500 || wrong < 500 {
		t.Error(right, wrong)
	}
}

func TestSame(t *testing.T) {
	for _, c := range []struct {
		a, b api.Wto
		same bool
	}{
		{order(nil, nil), order([]int{}, []int{}), true},
		{example, order(slices.Clone(example.Points), slices.Clone(example.Spans)), true},
		{order([]int{1}, []int{0}), order([]int{1}, []int{1}), false},
		{order([]int{1}, []int{0}), order([]int{2}, []int{0}), false},
		{order([]int{1, 2}, []int{0, 0}), order([]int{2, 1}, []int{0, 0}), false},
		{order([]int{-9}, nil), order([]int{-9}, nil), true},
		{order([]int{1}, []int{0}), order(nil, nil), false},
	} {
		if wto.Same(c.a, c.b) != c.same || wto.Same(c.b, c.a) != c.same {
			t.Errorf("Same(%v, %v)", c.a, c.b)
		}
	}
}

func TestShares(t *testing.T) {
	w := nest(3)
	h := wto.Heads(w, 2)
	h[0] = 99
	wto.Show(w)
	if !wto.Same(w, nest(3)) || wto.Heads(w, 2)[0] != 0 {
		t.Error("changed:", w)
	}
}
