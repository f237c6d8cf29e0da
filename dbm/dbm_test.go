package dbm_test

import (
	"math"
	"math/big"
	"math/rand"
	"slices"
	"testing"

	"warrantor/api"
	"warrantor/dbm"
)

const top = api.MaxVal

// widest is the bound of two variables, whatever their values are.
func widest(i, j int) int {
	if i == j {
		return 0
	}
	if i == 0 || j == 0 {
		return top
	}
	return 2 * top
}

// slow closes a matrix by numbers of any size, over and over until nothing changes; nil, if it has no valuations.
func slow(n int, m []int) []int {
	d := make([]*big.Int, len(m))
	for at := range m {
		d[at] = big.NewInt(int64(m[at]))
		if w := big.NewInt(int64(widest(at/(n+1), at%(n+1)))); w.Cmp(d[at]) < 0 {
			d[at] = w
		}
	}
	for range n + 2 { // ways of so many steps are enough, and one more tells whether there is an end
		next := slices.Clone(d)
		for i := range n + 1 {
			for j := range n + 1 {
				for k := range n + 1 {
					if s := new(big.Int).Add(d[i*(n+1)+k], d[k*(n+1)+j]); s.Cmp(next[i*(n+1)+j]) < 0 {
						next[i*(n+1)+j] = s
					}
				}
			}
		}
		d = next
	}
	out := make([]int, len(m))
	for at := range m {
		if at%(n+2) == 0 && d[at].Sign() < 0 {
			return nil
		}
		if d[at].IsInt64() {
			out[at] = int(d[at].Int64())
		}
	}
	return out
}

// number is a number of a matrix: small, great, or far beyond.
func number(r *rand.Rand) int {
	switch r.Intn(12) {
	case 0:
		return []int{math.MaxInt, math.MinInt, 4 * top, -4 * top, 2 * top, -2 * top, -2*top - 1, top, -top, -top - 1, 2*top - 1}[r.Intn(11)]
	case 1, 2, 3:
		return 2 * top
	case 4:
		return r.Intn(4*top) - 2*top
	}
	return r.Intn(30) - 5
}

func matrix(r *rand.Rand, n int) []int {
	m := make([]int, (n+1)*(n+1))
	for at := range m {
		m[at] = number(r)
		if at%(n+2) == 0 && r.Intn(20) > 0 {
			m[at] = r.Intn(3)
		}
	}
	return m
}

func TestAll(t *testing.T) {
	for n := range 9 {
		z, e := dbm.All(n)
		if e != api.OK || z.Vars != n || len(z.M) != (n+1)*(n+1) || dbm.Check(z) != api.OK || dbm.Empty(z) {
			t.Errorf("All(%d) = %v, %d", n, z, e)
		}
		for i := range n + 1 {
			for j := range n + 1 {
				if b, ok := dbm.Bound(z, i, j); b != widest(i, j) || !ok {
					t.Errorf("All(%d): the bound of %d, %d is %d", n, i, j, b)
				}
			}
		}
	}
	for _, n := range []int{-1, 9, math.MaxInt, math.MinInt} {
		if z, e := dbm.All(n); e != api.ErrArg || z.Vars != 0 || len(z.M) != 0 {
			t.Errorf("All(%d) = %v, %d", n, z, e)
		}
	}
}

func TestClose(t *testing.T) {
	r := rand.New(rand.NewSource(1))
	empty, full := 0, 0
	for range 3000 {
		n := r.Intn(9)
		m := matrix(r, n)
		old := slices.Clone(m)
		z, e := dbm.Close(n, m)
		want := slow(n, m)
		if e != api.OK || z.Vars != n || !slices.Equal(z.M, want) || !slices.Equal(m, old) {
			t.Fatalf("Close(%d, %v) = %v, %d, want %v", n, old, z, e, want)
		}
		if dbm.Check(z) != api.OK || dbm.Empty(z) != (len(want) == 0) {
			t.Fatalf("%v is no zone", z)
		}
		if len(want) == 0 {
			empty++
			continue
		}
		full++
		if again, _ := dbm.Close(n, z.M); !dbm.Same(again, z) {
			t.Fatalf("%v closed again is %v", z, again)
		}
		for j := range n + 1 {
			v, ok := dbm.Point(z, j)
			if !ok || len(v) != n || !dbm.Has(z, v) {
				t.Fatalf("Point(%v, %d) = %v, %v", z, j, v, ok)
			}
			v = append([]int{0}, v...)
			for k := range n + 1 {
				if b, ok := dbm.Bound(z, k, j); !ok || v[k]-v[j] != b {
					t.Fatalf("Point(%v, %d) = %v: %d is not at the bound", z, j, v, k)
				}
			}
		}
		for i := range n + 1 {
			for j := range n + 1 {
				for k := range n + 1 {
					if z.M[i*(n+1)+k] > z.M[i*(n+1)+j]+z.M[j*(n+1)+k] {
						t.Fatalf("%v is not closed", z)
					}
				}
			}
		}
	}
	if empty < 100 || full < 100 {
		t.Error(empty, full)
	}
}

func TestCloseArg(t *testing.T) {
	for k, c := range []struct {
		n, numbers int
		e          api.Errno
	}{{-1, 0, api.ErrArg}, {9, 100, api.ErrArg}, {0, 0, api.ErrArg}, {0, 2, api.ErrArg}, {1, 3, api.ErrArg}, {2, 4, api.ErrArg}, {2, 10, api.ErrArg}, {0, 1, api.OK}, {8, 81, api.OK}, {8, 80, api.ErrArg}} {
		z, e := dbm.Close(c.n, make([]int, c.numbers))
		if e != c.e || e != api.OK && (z.Vars != 0 || len(z.M) != 0) {
			t.Errorf("%d: %v, %d", k, z, e)
		}
	}
	z, _ := dbm.Close(0, []int{-1})
	if !dbm.Empty(z) || z.Vars != 0 {
		t.Error("below itself:", z)
	}
	z, _ = dbm.Close(1, []int{0, 5, 5, math.MinInt})
	if !dbm.Empty(z) || z.Vars != 1 {
		t.Error("below itself:", z)
	}
	z, _ = dbm.Close(1, []int{3, top, 7, 4})
	if !slices.Equal(z.M, []int{0, top, 7, 0}) {
		t.Error("above itself:", z)
	}
}

func TestExample(t *testing.T) {
	no := 4 * top
	z, _ := dbm.Close(2, []int{0, no, no, no, 0, 3, 4, no, 0})
	if b, ok := dbm.Bound(z, 1, 0); b != 7 || !ok {
		t.Error("the bound of x1 and 0:", b, ok)
	}
	z, _ = dbm.Close(2, []int{0, -8, no, no, 0, 3, 4, no, 0})
	if !dbm.Empty(z) {
		t.Error("valuations:", z)
	}
}

// A zone's valuations are those of its matrix: all small ones, each asked.
func TestHas(t *testing.T) {
	r := rand.New(rand.NewSource(2))
	for range 400 {
		m := []int{0, r.Intn(7) - 2, r.Intn(7) - 2, r.Intn(7) - 2, 0, r.Intn(9) - 4, r.Intn(7) - 2, r.Intn(9) - 4, 0}
		z, _ := dbm.Close(2, m)
		some := false
		best := slices.Repeat([]int{math.MinInt}, 9)
		for x := -6; x <= 6; x++ {
			for y := -6; y <= 6; y++ {
				v := []int{0, x, y}
				has := true
				for at := range m {
					has = has && v[at/3]-v[at%3] <= m[at]
				}
				if dbm.Has(z, v[1:]) != has {
					t.Fatalf("%v has %v: %v", m, v[1:], !has)
				}
				if has {
					some = true
					for at := range m {
						best[at] = max(best[at], v[at/3]-v[at%3])
					}
				}
			}
		}
		if some == dbm.Empty(z) || some && !slices.Equal(best, z.M) {
			t.Fatalf("%v: %v, want %v", m, z, best)
		}
	}
	all, _ := dbm.All(2)
	for _, c := range []struct {
		v   []int
		has bool
	}{{[]int{top, -top}, true}, {[]int{top + 1, 0}, false}, {[]int{0, -top - 1}, false}, {[]int{math.MaxInt, math.MinInt}, false}, {[]int{math.MinInt, math.MinInt}, false}, {[]int{0}, false}, {nil, false}, {[]int{0, 0, 0}, false}} {
		if dbm.Has(all, c.v) != c.has {
			t.Errorf("all has %v: %v", c.v, !c.has)
		}
	}
	none, _ := dbm.All(0)
	if !dbm.Has(none, nil) || !dbm.Has(none, []int{}) || dbm.Has(api.Zone{}, nil) {
		t.Error("no variables")
	}
}

func TestCheck(t *testing.T) {
	all, _ := dbm.All(2)
	with := func(at, n int) api.Zone {
		m := slices.Clone(all.M)
		m[at] = n
		return api.Zone{Vars: 2, M: m}
	}
	for k, c := range []struct {
		z api.Zone
		e api.Errno
	}{
		{all, api.OK},
		{api.Zone{}, api.OK},
		{api.Zone{Vars: 8, M: []int{}}, api.OK},
		{api.Zone{Vars: 0, M: []int{0}}, api.OK},
		{api.Zone{Vars: 9}, api.ErrZone},
		{api.Zone{Vars: -1}, api.ErrZone},
		{api.Zone{Vars: 0, M: []int{1}}, api.ErrZone},
		{api.Zone{Vars: 0, M: []int{-1}}, api.ErrZone},
		{api.Zone{Vars: 1, M: []int{0}}, api.ErrZone},
		{api.Zone{Vars: 2, M: all.M[:8]}, api.ErrZone},
		{api.Zone{Vars: 1, M: []int{0, -5, 4, 0}}, api.ErrZone},
		{api.Zone{Vars: 1, M: []int{0, -4, 4, 0}}, api.OK},
		{api.Zone{Vars: 1, M: []int{0, top + 1, 4, 0}}, api.ErrZone},
		{api.Zone{Vars: 1, M: []int{0, math.MinInt, math.MinInt, 0}}, api.ErrZone},
		{with(1, top-1), api.ErrZone}, // x1 >= 1 - MaxVal: then x2 - x1 is less, too
		{with(5, 3), api.OK},
		{with(5, 2*top+1), api.ErrZone},
		{with(4, 1), api.ErrZone},
	} {
		if e := dbm.Check(c.z); e != c.e {
			t.Errorf("%d: Check(%v) = %d", k, c.z, e)
		}
		if dbm.Empty(c.z) != (c.e == api.OK && len(c.z.M) == 0) {
			t.Errorf("%d: Empty(%v)", k, c.z)
		}
		if c.e == api.OK && len(c.z.M) > 0 {
			continue
		}
		b, ok := dbm.Bound(c.z, 0, 0)
		v, ok2 := dbm.Point(c.z, 0)
		if b != 0 || ok || len(v) != 0 || ok2 || dbm.Has(c.z, make([]int, max(0, min(8, c.z.Vars)))) {
			t.Errorf("%d: %v has a bound, or a point", k, c.z)
		}
	}
	for _, c := range [][2]int{{-1, 0}, {0, -1}, {3, 0}, {0, 3}, {math.MaxInt, 0}, {math.MinInt, math.MinInt}} {
		b, ok := dbm.Bound(all, c[0], c[1])
		if b != 0 || ok {
			t.Errorf("a bound of %v", c)
		}
	}
	for _, j := range []int{-1, 3, math.MaxInt, math.MinInt} {
		if v, ok := dbm.Point(all, j); len(v) != 0 || ok {
			t.Errorf("Point(%d) = %v", j, v)
		}
	}
}

func TestSame(t *testing.T) {
	all, _ := dbm.All(1)
	for k, c := range []struct {
		a, b api.Zone
		same bool
	}{
		{all, api.Zone{Vars: 1, M: slices.Clone(all.M)}, true},
		{api.Zone{Vars: 3}, api.Zone{Vars: 3, M: []int{}}, true},
		{api.Zone{Vars: 3}, api.Zone{Vars: 2}, false},
		{all, api.Zone{Vars: 1}, false},
		{all, api.Zone{Vars: 1, M: []int{0, top, top, 1}}, false},
		{api.Zone{Vars: -7, M: []int{5}}, api.Zone{Vars: -7, M: []int{5}}, true},
		{api.Zone{Vars: 1, M: []int{0}}, api.Zone{Vars: 0, M: []int{0}}, false},
	} {
		if dbm.Same(c.a, c.b) != c.same || dbm.Same(c.b, c.a) != c.same {
			t.Errorf("%d: Same(%v, %v)", k, c.a, c.b)
		}
	}
}

// What is told is nobody else's, and what is handed in is not changed.
func TestShares(t *testing.T) {
	a, _ := dbm.All(1)
	a.M[0] = 9
	if b, _ := dbm.All(1); b.M[0] != 0 {
		t.Error("All shares")
	}
	m := []int{0, 1, 1, 0, 5}
	z, _ := dbm.Close(1, m[:4])
	z.M = append(z.M, 8)
	z.M[1] = 7
	if !slices.Equal(m, []int{0, 1, 1, 0, 5}) {
		t.Error("Close shares", m)
	}
	z, _ = dbm.Close(1, m[:4])
	dbm.Check(z)
	v, _ := dbm.Point(z, 1)
	v[0] = 100
	if !slices.Equal(z.M, []int{0, 1, 1, 0}) {
		t.Error("Point shares", z)
	}
}
