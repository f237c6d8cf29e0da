package zone_test

import (
	"math"
	"math/rand"
	"slices"
	"testing"

	"warrantor/api"
	"warrantor/dbm"
	"warrantor/itv"
	"warrantor/zone"
)

const top = api.MaxVal

// anchors are values around which small zones lie: in the middle, and at the ends.
var anchors = []int{0, top, -top}

// small is a zone of two variables that has some, or all, or none of the valuations next to two anchors.
func small(r *rand.Rand, a, b int) api.Zone {
	m := slices.Repeat([]int{4 * top}, 9)
	at := []int{0, a, b}
	for i := range 3 {
		for j := range 3 {
			if (i == 0) != (j == 0) || i != j && r.Intn(2) == 0 {
				m[3*i+j] = at[i] - at[j] + r.Intn(8) - 2
			}
		}
	}
	z, _ := dbm.Close(2, m)
	return z
}

// near are the valuations next to two anchors, further than small zones go.
func near(a, b int) [][]int {
	var l [][]int
	for x := -8; x <= 8; x++ {
		for y := -8; y <= 8; y++ {
			if dbm.Has(whole(2), []int{a + x, b + y}) {
				l = append(l, []int{a + x, b + y})
			}
		}
	}
	return l
}

func whole(n int) api.Zone {
	z, _ := dbm.All(n)
	return z
}

// values are all valuations of a small zone.
func values(z api.Zone, a, b int) [][]int {
	return slices.DeleteFunc(near(a, b), func(v []int) bool { return !dbm.Has(z, v) })
}

// hull is the least zone of valuations, told by their differences alone.
func hull(l [][]int) api.Zone {
	if len(l) == 0 {
		return api.Zone{Vars: 2}
	}
	m := slices.Repeat([]int{math.MinInt}, 9)
	for _, v := range l {
		v = []int{0, v[0], v[1]}
		for at := range m {
			m[at] = max(m[at], v[at/3]-v[at%3])
		}
	}
	return api.Zone{Vars: 2, M: m}
}

func has(l [][]int, v []int) bool {
	return slices.ContainsFunc(l, func(w []int) bool { return slices.Equal(v, w) })
}

// each does f with many pairs of small zones at anchors.
func each(f func(r *rand.Rand, a, b int, x, y api.Zone)) {
	r := rand.New(rand.NewSource(1))
	for _, a := range anchors {
		for _, b := range anchors {
			for range 30 {
				f(r, a, b, small(r, a, b), small(r, a, b))
			}
		}
	}
}

func same(t *testing.T, what string, got api.Zone, e api.Errno, want api.Zone) {
	t.Helper()
	if e != api.OK || !dbm.Same(got, want) || dbm.Check(got) != api.OK {
		t.Fatalf("%s: %v, error %d, want %v", what, got, e, want)
	}
}

func TestLeqMeetJoin(t *testing.T) {
	leqs, not := 0, 0
	each(func(r *rand.Rand, a, b int, x, y api.Zone) {
		p, q := values(x, a, b), values(y, a, b)
		missing := slices.DeleteFunc(slices.Clone(p), func(v []int) bool { return has(q, v) })
		leq, e := zone.Leq(x, y)
		if e != api.OK || leq != (len(missing) == 0) {
			t.Fatalf("Leq(%v, %v) = %v, %d", x, y, leq, e)
		}
		if leq {
			leqs++
		} else {
			not++
		}
		both := slices.DeleteFunc(slices.Clone(p), func(v []int) bool { return !has(q, v) })
		got, e := zone.Meet(x, y)
		same(t, "Meet", got, e, hull(both))
		if len(values(got, a, b)) != len(both) {
			t.Fatalf("Meet(%v, %v) = %v", x, y, got)
		}
		got, e = zone.Join(x, y)
		same(t, "Join", got, e, hull(append(p, q...)))
		// Of what is not in the other one, a point at a bound tells.
		if !leq {
			found := false
			for j := range 3 {
				v, ok := dbm.Point(x, j)
				found = found || ok && !dbm.Has(y, v)
			}
			if !found {
				t.Fatalf("no point of %v is outside %v", x, y)
			}
		}
	})
	if leqs < 20 || not < 20 {
		t.Error(leqs, not)
	}
	none, all := api.Zone{Vars: 2}, whole(2)
	for _, c := range []struct {
		a, b api.Zone
		leq  bool
	}{{none, none, true}, {none, all, true}, {all, none, false}, {all, all, true}} {
		if leq, e := zone.Leq(c.a, c.b); leq != c.leq || e != api.OK {
			t.Errorf("Leq(%v, %v) = %v", c.a, c.b, leq)
		}
	}
}

func TestWiden(t *testing.T) {
	each(func(r *rand.Rand, a, b int, x, y api.Zone) {
		got, e := zone.Widen(x, y)
		want := x
		switch {
		case len(x.M) == 0:
			want = y
		case len(y.M) > 0:
			m := slices.Clone(x.M)
			for at := range m {
				if y.M[at] > x.M[at] {
					m[at] = 4 * top
				}
			}
			want, _ = dbm.Close(2, m)
		}
		same(t, "Widen", got, e, want)
		for _, z := range []api.Zone{x, y} {
			if leq, _ := zone.Leq(z, got); !leq {
				t.Fatalf("Widen(%v, %v) = %v has not all", x, y, got)
			}
		}
	})
	x, _ := zone.Box([]api.Itv{{Lo: 0, Hi: 3}})
	y, _ := zone.Box([]api.Itv{{Lo: 0, Hi: 4}})
	got, e := zone.Widen(x, y)
	want, _ := zone.Box([]api.Itv{{Lo: 0, Hi: top}})
	same(t, "Widen", got, e, want)
	got, e = zone.Widen(y, x)
	same(t, "Widen", got, e, y)
}

func TestLimit(t *testing.T) {
	each(func(r *rand.Rand, a, b int, x, _ api.Zone) {
		at := []int{0, a, b}
		for i := range 3 {
			for j := range 3 {
				c := at[i] - at[j] + r.Intn(9) - 4
				l := slices.DeleteFunc(values(x, a, b), func(v []int) bool {
					v = []int{0, v[0], v[1]}
					return v[i]-v[j] > c
				})
				got, e := zone.Limit(x, i, j, c)
				same(t, "Limit", got, e, hull(l))
				if len(values(got, a, b)) != len(l) {
					t.Fatalf("Limit(%v, %d, %d, %d) = %v", x, i, j, c, got)
				}
				got, e = zone.Limit(x, i, j, math.MaxInt)
				same(t, "Limit of all", got, e, x)
				got, e = zone.Limit(x, i, j, math.MinInt)
				same(t, "Limit of none", got, e, api.Zone{Vars: 2})
			}
		}
	})
	for _, c := range []struct{ c, i int }{{0, 1}, {-1, 0}} {
		got, e := zone.Limit(whole(1), 1, 1, c.c)
		want := whole(1)
		if c.i == 0 {
			want = api.Zone{Vars: 1}
		}
		same(t, "Limit of one and itself", got, e, want)
	}
}

func TestForget(t *testing.T) {
	each(func(r *rand.Rand, a, b int, x, _ api.Zone) {
		l := values(x, a, b)
		for i := 1; i <= 2; i++ {
			var want [][]int
			for _, v := range l {
				for _, any := range []int{-top, 0, 5, top} {
					w := slices.Clone(v)
					w[i-1] = any
					want = append(want, w)
				}
			}
			got, e := zone.Forget(x, i)
			same(t, "Forget", got, e, hull(want))
			for _, v := range append(near(a, b), want...) {
				other := 2 - i
				is := slices.ContainsFunc(l, func(w []int) bool { return w[other] == v[other] })
				if dbm.Has(got, v) != is {
					t.Fatalf("Forget(%v, %d) = %v: %v", x, i, got, v)
				}
			}
		}
	})
}

func TestLet(t *testing.T) {
	each(func(r *rand.Rand, a, b int, x, _ api.Zone) {
		l := values(x, a, b)
		for i := 1; i <= 2; i++ {
			for j := range 3 {
				for _, c := range []int{0, r.Intn(9) - 4, top, -top, 2 * top, -2 * top, 2*top - r.Intn(4), r.Intn(4) - 2*top, top - r.Intn(4), 2*top + 1, -2*top - 1, math.MaxInt, math.MinInt} {
					var want [][]int
					for _, v := range l {
						old := []int{0, v[0], v[1]}[j]
						if c > 2*top || c < -2*top || old+c > top || old+c < -top {
							continue
						}
						w := slices.Clone(v)
						w[i-1] = old + c
						want = append(want, w)
					}
					got, e := zone.Let(x, i, j, c)
					same(t, "Let", got, e, hull(want))
					for _, v := range l {
						if dbm.Has(got, v) != has(want, v) {
							t.Fatalf("Let(%v, %d, %d, %d) = %v: %v", x, i, j, c, got, v)
						}
					}
				}
			}
		}
	})
	z, _ := zone.Box([]api.Itv{{Lo: 0, Hi: top}})
	got, e := zone.Let(z, 1, 1, 1)
	want, _ := zone.Box([]api.Itv{{Lo: 1, Hi: top}})
	same(t, "the example", got, e, want)
}

// What is known of other variables stays known, whatever is done with one.
func TestMany(t *testing.T) {
	no := 4 * top
	m := slices.Repeat([]int{no}, 16)
	m[4*1+2], m[4*2+3], m[4*3+0], m[0*4+1] = 1, 2, 10, -3 // x1 <= x2 + 1, x2 <= x3 + 2, x3 <= 10, 3 <= x1
	z, _ := dbm.Close(3, m)
	forgot, _ := zone.Forget(z, 2)
	if b, _ := dbm.Bound(forgot, 1, 3); b != 3 {
		t.Error("x1 less x3:", b)
	}
	let, _ := zone.Let(z, 2, 3, -7)
	for _, c := range []struct{ i, j, b int }{{2, 3, -7}, {3, 2, 7}, {1, 3, 3}, {1, 2, 10}, {2, 0, 3}} {
		if b, _ := dbm.Bound(let, c.i, c.j); b != c.b {
			t.Errorf("x%d less x%d: %d, want %d", c.i, c.j, b, c.b)
		}
	}
	moved, _ := zone.Let(z, 2, 2, 5)
	for _, c := range []struct{ i, j, b int }{{1, 2, -4}, {2, 3, 7}, {2, 0, 17}, {0, 2, -7}} {
		if b, _ := dbm.Bound(moved, c.i, c.j); b != c.b {
			t.Errorf("x%d less x%d: %d, want %d", c.i, c.j, b, c.b)
		}
	}
}

func TestItvBox(t *testing.T) {
	each(func(r *rand.Rand, a, b int, x, _ api.Zone) {
		l := values(x, a, b)
		for i := range 3 {
			want := itv.None()
			for _, v := range l {
				at := []int{0, v[0], v[1]}[i]
				want = itv.Join(want, itv.Of(at, at))
			}
			if got, e := zone.Itv(x, i); got != want || e != api.OK {
				t.Fatalf("Itv(%v, %d) = %v", x, i, got)
			}
		}
	})
	for k, c := range []struct {
		l []api.Itv
		z api.Zone
	}{
		{nil, whole(0)},
		{[]api.Itv{itv.All()}, whole(1)},
		{make([]api.Itv, 8), api.Zone{Vars: 8, M: make([]int, 81)}},
		{[]api.Itv{{Lo: math.MinInt, Hi: math.MaxInt}, {Lo: -top - 1, Hi: top + 5}}, whole(2)},
		{[]api.Itv{itv.All(), itv.None()}, api.Zone{Vars: 2}},
		{[]api.Itv{{Lo: 5, Hi: 4}}, api.Zone{Vars: 1}},
		{[]api.Itv{{Lo: top + 1, Hi: top + 2}}, api.Zone{Vars: 1}},
		{[]api.Itv{{Lo: math.MinInt, Hi: -top - 1}}, api.Zone{Vars: 1}},
		{[]api.Itv{{Lo: -2, Hi: 3}, {Lo: 10, Hi: top}}, hull([][]int{{-2, 10}, {3, 10}, {-2, top}, {3, top}})},
	} {
		got, e := zone.Box(c.l)
		if e != api.OK || !dbm.Same(got, c.z) {
			t.Errorf("%d: Box(%v) = %v, %d", k, c.l, got, e)
		}
	}
	if z, e := zone.Box(make([]api.Itv, 9)); e != api.ErrArg || z.Vars != 0 || len(z.M) != 0 {
		t.Error("nine:", z, e)
	}
}

func TestWrong(t *testing.T) {
	good, other, none := whole(2), whole(1), api.Zone{Vars: 2}
	bad := []api.Zone{{Vars: 9}, {Vars: -1}, {Vars: 2, M: []int{1}}, {Vars: 1, M: []int{0, 9, 9, 1}}, {Vars: 2, M: append(slices.Clone(good.M), 0)}}
	pair := map[string]func(a, b api.Zone) (api.Zone, api.Errno){
		"Meet": zone.Meet, "Join": zone.Join, "Widen": zone.Widen,
		"Leq": func(a, b api.Zone) (api.Zone, api.Errno) {
			is, e := zone.Leq(a, b)
			if is {
				return good, e
			}
			return api.Zone{}, e
		},
	}
	refused := func(what string, z api.Zone, e, want api.Errno) {
		t.Helper()
		if e != want || z.Vars != 0 || len(z.M) != 0 {
			t.Errorf("%s: %v, %d, want %d", what, z, e, want)
		}
	}
	for name, f := range pair {
		for _, b := range bad {
			z, e := f(b, good)
			refused(name, z, e, api.ErrZone)
			z, e = f(good, b)
			refused(name, z, e, api.ErrZone)
			z, e = f(b, other)
			refused(name, z, e, api.ErrZone)
			z, e = f(none, b)
			refused(name, z, e, api.ErrZone)
		}
		z, e := f(good, other)
		refused(name, z, e, api.ErrArg)
		z, e = f(api.Zone{Vars: 1}, none)
		refused(name, z, e, api.ErrArg)
	}
	numbers := []int{-1, 3, math.MinInt, math.MaxInt}
	for _, z := range []api.Zone{good, none} {
		for _, i := range numbers {
			got, e := zone.Limit(z, i, 0, 0)
			refused("Limit", got, e, api.ErrArg)
			got, e = zone.Limit(z, 0, i, 0)
			refused("Limit", got, e, api.ErrArg)
			got, e = zone.Forget(z, i)
			refused("Forget", got, e, api.ErrArg)
			got, e = zone.Let(z, i, 1, 0)
			refused("Let", got, e, api.ErrArg)
			got, e = zone.Let(z, 1, i, 0)
			refused("Let", got, e, api.ErrArg)
			if x, e := zone.Itv(z, i); x != (api.Itv{}) || e != api.ErrArg {
				t.Error("Itv:", x, e)
			}
		}
		got, e := zone.Forget(z, 0)
		refused("Forget", got, e, api.ErrArg)
		got, e = zone.Let(z, 0, 1, 0)
		refused("Let", got, e, api.ErrArg)
	}
	for _, b := range bad {
		got, e := zone.Limit(b, -1, 0, 0)
		refused("Limit", got, e, api.ErrZone)
		got, e = zone.Forget(b, 0)
		refused("Forget", got, e, api.ErrZone)
		got, e = zone.Let(b, 0, 0, 0)
		refused("Let", got, e, api.ErrZone)
		if x, e := zone.Itv(b, -1); x != (api.Itv{}) || e != api.ErrZone {
			t.Error("Itv:", x, e)
		}
	}
	if x, e := zone.Itv(whole(0), 0); x != itv.Of(0, 0) || e != api.OK {
		t.Error("0 without variables:", x, e)
	}
	if z, e := zone.Limit(whole(0), 0, 0, -1); e != api.OK || !dbm.Empty(z) || z.Vars != 0 {
		t.Error("0 below itself:", z, e)
	}
	if z, e := zone.Limit(whole(0), 0, 0, 0); e != api.OK || !dbm.Same(z, whole(0)) {
		t.Error("0 not above itself:", z, e)
	}
	if x, e := zone.Itv(none, 0); x != itv.None() || e != api.OK {
		t.Error("0 of none:", x, e)
	}
	if x, e := zone.Itv(good, 0); x != itv.Of(0, 0) || e != api.OK {
		t.Error("0:", x, e)
	}
}

// What is handed in is not changed, nor what lies behind it.
func TestShares(t *testing.T) {
	r := rand.New(rand.NewSource(7))
	for range 50 {
		x, y := small(r, 0, 0), small(r, 0, 0)
		room := append(slices.Clone(x.M), 77)
		x.M = room[:len(x.M)]
		p, q := slices.Clone(room), slices.Clone(y.M)
		do := func(z api.Zone, _ api.Errno) {
			z.M = append(z.M, 5)
			if !slices.Equal(room, p) || !slices.Equal(y.M, q) {
				t.Fatal("changed")
			}
		}
		do(zone.Meet(x, y))
		do(zone.Join(x, y))
		do(zone.Widen(x, y))
		do(zone.Limit(x, 1, 2, 0))
		do(zone.Forget(x, 1))
		do(zone.Let(x, 1, 1, 3))
		do(zone.Let(x, 1, 2, 3))
		zone.Leq(x, y)
		zone.Itv(x, 1)
	}
}
