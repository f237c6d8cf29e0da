package itv_test

import (
	"math"
	"math/rand"
	"testing"

	"warrantor/api"
	"warrantor/itv"
	"warrantor/val"
)

const top = api.MaxVal

func of(lo, hi int) api.Itv { return api.Itv{Lo: lo, Hi: hi} }

// ends are numbers at which something begins or ends.
var ends = []int{math.MinInt, -2*top - 1, -2 * top, -top - 1, -top, 1 - top, -3, 0, 1, 5, top - 1, top, top + 1, 2 * top, 2*top + 1, math.MaxInt}

// pairs are all intervals of these ends, plain or not.
func pairs() []api.Itv {
	var l []api.Itv
	for _, lo := range ends {
		for _, hi := range ends {
			l = append(l, of(lo, hi))
		}
	}
	return l
}

// in tells whether an interval of any two numbers has v.
func in(x api.Itv, v int) bool { return v >= -top && v <= top && v >= x.Lo && v <= x.Hi }

// want is the plain interval of two numbers.
func want(lo, hi int) api.Itv {
	if lo < -top {
		lo = -top
	}
	if hi > top {
		hi = top
	}
	if lo > hi {
		return of(1, 0)
	}
	return of(lo, hi)
}

func TestOf(t *testing.T) {
	if itv.All() != of(-top, top) || itv.None() != of(1, 0) {
		t.Error("All, None")
	}
	for _, lo := range ends {
		for _, hi := range ends {
			if got := itv.Of(lo, hi); got != want(lo, hi) {
				t.Errorf("Of(%d, %d) = %v", lo, hi, got)
			}
			x, w := of(lo, hi), want(lo, hi)
			if itv.Is(x) != (x == w) {
				t.Errorf("Is(%v)", x)
			}
			size := 0
			if w.Lo <= w.Hi {
				size = w.Hi - w.Lo + 1
			}
			if itv.Size(x) != size {
				t.Errorf("Size(%v) = %d", x, itv.Size(x))
			}
			for _, v := range ends {
				if itv.Has(x, v) != in(x, v) {
					t.Errorf("Has(%v, %d)", x, v)
				}
			}
		}
	}
}

func TestTwo(t *testing.T) {
	all := pairs()
	for _, x := range all {
		for _, y := range all {
			p, q := want(x.Lo, x.Hi), want(y.Lo, y.Hi)
			none, none2 := p == of(1, 0), q == of(1, 0)
			if got, w := itv.Leq(x, y), none || !none2 && q.Lo <= p.Lo && p.Hi <= q.Hi; got != w {
				t.Fatalf("Leq(%v, %v) = %v", x, y, got)
			}
			if itv.Same(x, y) != (p == q) {
				t.Fatalf("Same(%v, %v)", x, y)
			}
			join, plus, widen := of(min(p.Lo, q.Lo), max(p.Hi, q.Hi)), of(1, 0), p
			switch {
			case none:
				join, widen = q, q
			case none2:
				join = p
			default:
				plus = want(p.Lo+q.Lo, p.Hi+q.Hi)
				if q.Lo < p.Lo {
					widen.Lo = -top
				}
				if q.Hi > p.Hi {
					widen.Hi = top
				}
			}
			if itv.Join(x, y) != join || itv.Plus(x, y) != plus || itv.Widen(x, y) != widen {
				t.Fatalf("Join, Plus, Widen of %v, %v: %v, %v, %v", x, y, itv.Join(x, y), itv.Plus(x, y), itv.Widen(x, y))
			}
			if got := itv.Meet(x, y); got != want(max(p.Lo, q.Lo), min(p.Hi, q.Hi)) {
				t.Fatalf("Meet(%v, %v) = %v", x, y, got)
			}
			if w := itv.Widen(x, y); !itv.Leq(x, w) || !itv.Leq(y, w) {
				t.Fatalf("Widen(%v, %v) = %v has not all", x, y, w)
			}
		}
	}
}

// small intervals, value by value: what an operation tells is the hull of what it is of.
func TestSmall(t *testing.T) {
	hull := func(l []int) api.Itv {
		out := of(1, 0)
		for i, v := range l {
			if i == 0 {
				out = of(v, v)
			}
			out = of(min(out.Lo, v), max(out.Hi, v))
		}
		return out
	}
	values := func(x api.Itv) []int {
		var l []int
		for v := x.Lo; v <= x.Hi; v++ {
			l = append(l, v)
		}
		return l
	}
	for a := range 49 {
		x := of(a/7-3, a%7-3)
		for b := range 49 {
			y := of(b/7-3, b%7-3)
			var sums, either, both []int
			for _, v := range values(x) {
				for _, w := range values(y) {
					sums = append(sums, v+w)
					if v == w {
						both = append(both, v)
					}
				}
			}
			either = append(values(x), values(y)...)
			if itv.Plus(x, y) != hull(sums) || itv.Join(x, y) != hull(either) || itv.Meet(x, y) != hull(both) {
				t.Errorf("%v, %v: %v, %v, %v", x, y, itv.Plus(x, y), itv.Join(x, y), itv.Meet(x, y))
			}
		}
		var turned []int
		for _, v := range values(x) {
			turned = append(turned, -v)
		}
		if itv.Neg(x) != hull(turned) || itv.Size(x) != len(turned) {
			t.Errorf("Neg(%v) = %v", x, itv.Neg(x))
		}
	}
}

func TestMoveNeg(t *testing.T) {
	if itv.Move(of(5, top), 2) != of(7, top) {
		t.Error("the example")
	}
	for _, x := range pairs() {
		p := want(x.Lo, x.Hi)
		for _, c := range append(ends, 2*top-1, 1-2*top, math.MinInt+1) {
			w := of(1, 0)
			if p != w && c <= 2*top && c >= -2*top {
				w = want(p.Lo+c, p.Hi+c)
			}
			if got := itv.Move(x, c); got != w {
				t.Fatalf("Move(%v, %d) = %v, want %v", x, c, got, w)
			}
		}
		w := of(-p.Hi, -p.Lo)
		if p == of(1, 0) {
			w = p
		}
		if itv.Neg(x) != w {
			t.Fatalf("Neg(%v) = %v", x, itv.Neg(x))
		}
	}
}

func TestShowParse(t *testing.T) {
	for _, c := range []struct {
		x api.Itv
		s string
	}{
		{of(1, 0), "none"},
		{of(0, 0), "[0, 0]"},
		{of(-3, 12), "[-3, 12]"},
		{of(-top, top), "[-inf, inf]"},
		{of(top, top), "[inf, inf]"},
		{of(5, top), "[5, inf]"},
	} {
		if s := itv.Show(c.x); s != c.s {
			t.Errorf("Show(%v) = %q", c.x, s)
		}
		if x, e := itv.Parse(c.s); x != c.x || e != api.OK {
			t.Errorf("Parse(%q) = %v, %d", c.s, x, e)
		}
	}
	for _, x := range pairs() {
		p := want(x.Lo, x.Hi)
		s := "none"
		if p.Lo <= p.Hi {
			s = "[" + val.Show(p.Lo) + ", " + val.Show(p.Hi) + "]"
		}
		if itv.Show(x) != s {
			t.Errorf("Show(%v) = %q", x, itv.Show(x))
		}
		if y, e := itv.Parse(itv.Show(x)); y != p || e != api.OK {
			t.Errorf("%v is parsed as %v", x, y)
		}
	}
	for _, s := range []string{
		"", "[]", "[1]", "None", " none", "none ", "[none]", "[1, 0]", "[1,2]", "[1,  2]", "[ 1, 2]", "[1, 2", "1, 2]", "1, 2", "[1, 2]]", "[[1, 2]", "[1, 2, 3]", "[01, 2]", "[-0, 2]", "[1, 1099511627776]", "[2, -inf]", "(1, 2)", "[1, 2]\n", "[, ]", "[1, ]", "[, 1]", "[inf, -inf]",
	} {
		if x, e := itv.Parse(s); x != (api.Itv{}) || e != api.ErrItv {
			t.Errorf("Parse(%q) = %v, %d", s, x, e)
		}
	}
}

// However intervals come, one that is widened by one behind the other changes three times at most.
func TestWidenRow(t *testing.T) {
	r := rand.New(rand.NewSource(1))
	all := pairs()
	most := 0
	for range 3000 {
		x, changes := itv.None(), 0
		for range 30 {
			next := itv.Widen(x, all[r.Intn(len(all))])
			if next != x {
				changes++
			}
			x = next
		}
		most = max(most, changes)
	}
	if most != 3 {
		t.Errorf("%d changes", most)
	}
	if itv.Widen(of(0, 3), of(0, 4)) != of(0, top) {
		t.Error("the example")
	}
}
