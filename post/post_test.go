package post_test

import (
	"math"
	"math/rand"
	"slices"
	"testing"

	"warrantor/api"
	"warrantor/dbm"
	"warrantor/post"
	"warrantor/prog"
	"warrantor/run"
	"warrantor/zone"
)

const top = api.MaxVal

// small is a zone of two variables next to two anchors.
func small(r *rand.Rand, a, b int) api.Zone {
	m := slices.Repeat([]int{4 * top}, 9)
	at := []int{0, a, b}
	for i := range 3 {
		for j := range 3 {
			if (i == 0) != (j == 0) || i != j && r.Intn(3) == 0 {
				m[3*i+j] = at[i] - at[j] + r.Intn(6) - 1
			}
		}
	}
	z, _ := dbm.Close(2, m)
	return z
}

func near(a, b int) [][]int {
	var l [][]int
	all, _ := dbm.All(2)
	for x := -8; x <= 8; x++ {
		for y := -8; y <= 8; y++ {
			if dbm.Has(all, []int{a + x, b + y}) {
				l = append(l, []int{a + x, b + y})
			}
		}
	}
	return l
}

func values(z api.Zone, a, b int) [][]int {
	return slices.DeleteFunc(near(a, b), func(v []int) bool { return !dbm.Has(z, v) })
}

func hull(l [][]int) api.Zone {
	if len(l) == 0 {
		return api.Zone{Vars: 2}
	}
	m := slices.Repeat([]int{math.MinInt}, 9)
	for _, v := range l {
		v = []int{0, v[0], v[1]}
		for at := range m {
			m[at] = max(m[at], v[at/3]-v[at%3])
		}
	}
	return api.Zone{Vars: 2, M: m}
}

// statement is any one about two variables, with numbers that matter next to the anchors.
func statement(r *rand.Rand, a, b int) api.Stmt {
	at := []int{0, a, b}
	for {
		s := api.Stmt{Kind: 1 + r.Intn(5), X: r.Intn(3), Y: r.Intn(3)}
		s.C = []int{r.Intn(9) - 4, at[s.X] - at[s.Y] + r.Intn(9) - 4, top - r.Intn(3), r.Intn(3) - top}[r.Intn(4)]
		switch s.Kind {
		case api.StSkip:
			s = api.Stmt{Kind: api.StSkip}
		case api.StAny:
			s.Y, s.C = 0, at[s.X]+r.Intn(7)-3
			s.D = s.C + r.Intn(3)
		}
		if prog.Right(s, 2) {
			return s
		}
	}
}

// goes tells the valuations to which a statement goes on, and those at fault, by running it.
func goes(s api.Stmt, l [][]int) (behind, fault [][]int) {
	p := api.Prog{Name: "p", Vars: []string{"x", "y"}, Spots: []api.Spot{{Func: "f", File: "a", Line: 1}}, Edges: []api.Edge{{Stmt: s}}}
	for _, v := range l {
		for c := s.C; c <= max(s.C, s.D); c++ {
			next, e := run.Step(p, api.State{Vals: v}, api.Choice{V: c})
			if e == api.OK {
				behind = append(behind, next.Vals)
			}
			if e == api.ErrFault {
				fault = append(fault, v)
			}
			if s.Kind != api.StAny {
				break
			}
		}
	}
	return behind, fault
}

func TestPostFault(t *testing.T) {
	r := rand.New(rand.NewSource(1))
	kinds := [6]int{}
	may, must := 0, 0
	for range 4000 {
		a, b := []int{0, top, -top}[r.Intn(3)], []int{0, top, -top}[r.Intn(3)]
		z, s := small(r, a, b), statement(r, a, b)
		old := slices.Clone(z.M)
		l := values(z, a, b)
		behind, fault := goes(s, l)
		got, e := post.Post(z, s)
		if e != api.OK || !dbm.Same(got, hull(behind)) {
			t.Fatalf("Post(%v, %v) = %v, %d, want %v", z, s, got, e, hull(behind))
		}
		for _, v := range append(near(a, b), behind...) {
			is := slices.ContainsFunc(behind, func(w []int) bool { return slices.Equal(v, w) })
			if dbm.Has(got, v) != is {
				t.Fatalf("Post(%v, %v) = %v has %v: %v", z, s, got, v, !is)
			}
		}
		bad, e := post.Fault(z, s)
		if e != api.OK || !dbm.Same(bad, hull(fault)) || len(values(bad, a, b)) != len(fault) {
			t.Fatalf("Fault(%v, %v) = %v, %d, want %v", z, s, bad, e, hull(fault))
		}
		if post.May(z, s) != (len(fault) > 0) || post.Must(z, s) != (len(fault) > 0 && len(fault) == len(l)) {
			t.Fatalf("%v, %v: May %v, Must %v", z, s, post.May(z, s), post.Must(z, s))
		}
		if !slices.Equal(old, z.M) {
			t.Fatalf("changed: %v", z)
		}
		kinds[s.Kind]++
		if post.Must(z, s) {
			must++
		} else if post.May(z, s) {
			may++
		}
		// More than z has more behind it.
		more, _ := zone.Join(z, small(r, a, b))
		wide, _ := post.Post(more, s)
		wideBad, _ := post.Fault(more, s)
		leq, _ := zone.Leq(got, wide)
		leqBad, _ := zone.Leq(bad, wideBad)
		if !leq || !leqBad {
			t.Fatalf("%v, %v: more has less behind it", z, s)
		}
	}
	if slices.Min(kinds[1:]) < 300 || may < 50 || must < 50 {
		t.Error(kinds, may, must)
	}
}

func TestExamples(t *testing.T) {
	box := func(lo, hi int) api.Zone {
		z, _ := zone.Box([]api.Itv{{Lo: lo, Hi: hi}})
		return z
	}
	got, e := post.Post(box(0, 3), api.Stmt{Kind: api.StLet, X: 1, Y: 1, C: 1})
	if !dbm.Same(got, box(1, 4)) || e != api.OK {
		t.Error("behind x := x + 1:", got, e)
	}
	got, e = post.Fault(box(0, 3), api.Stmt{Kind: api.StCheck, X: 1, C: 2})
	if !dbm.Same(got, box(3, 3)) || e != api.OK {
		t.Error("at fault of check x <= 2:", got, e)
	}
	for k, c := range []struct {
		z         api.Zone
		c         int
		may, must bool
	}{{box(0, 3), 3, false, false}, {box(0, 3), 2, true, false}, {box(0, 3), 0, true, false}, {box(0, 3), -1, true, true}, {box(1, 0), -1, false, false}, {box(-top, top), -top, true, false}, {box(-top, top), top, false, false}} {
		s := api.Stmt{Kind: api.StCheck, X: 1, C: c.c}
		if post.May(c.z, s) != c.may || post.Must(c.z, s) != c.must {
			t.Errorf("%d: May %v, Must %v", k, post.May(c.z, s), post.Must(c.z, s))
		}
		limit := api.Stmt{Kind: api.StLimit, X: 1, C: c.c}
		if post.May(c.z, limit) || post.Must(c.z, limit) {
			t.Errorf("%d: a limit is at fault", k)
		}
	}
	none := api.Zone{Vars: 1}
	for kind := 1; kind <= 5; kind++ {
		s := api.Stmt{Kind: kind, X: 1}
		if kind == api.StSkip {
			s.X = 0
		}
		got, e := post.Post(none, s)
		bad, e2 := post.Fault(none, s)
		if !dbm.Same(got, none) || !dbm.Same(bad, none) || e != api.OK || e2 != api.OK || post.May(none, s) || post.Must(none, s) {
			t.Errorf("of none: %v, %v", got, bad)
		}
	}
	// Any value is any one, whatever is known of the others.
	z, _ := zone.Limit(box(0, 3), 1, 0, 3)
	got, _ = post.Post(z, api.Stmt{Kind: api.StAny, X: 1, C: -top, D: top})
	if all, _ := dbm.All(1); !dbm.Same(got, all) {
		t.Error("any of all:", got)
	}
}

func TestWrong(t *testing.T) {
	good, _ := dbm.All(2)
	bad := api.Zone{Vars: 2, M: []int{0}}
	check := api.Stmt{Kind: api.StCheck, X: 1, C: -top}
	for k, c := range []struct {
		z api.Zone
		s api.Stmt
		e api.Errno
	}{
		{bad, check, api.ErrZone},
		{bad, api.Stmt{}, api.ErrZone},
		{api.Zone{Vars: 9}, api.Stmt{Kind: api.StSkip}, api.ErrZone},
		{good, api.Stmt{}, api.ErrStmt},
		{good, api.Stmt{Kind: 6}, api.ErrStmt},
		{good, api.Stmt{Kind: -1}, api.ErrStmt},
		{good, api.Stmt{Kind: api.StCheck, X: 3, C: -top}, api.ErrStmt},
		{good, api.Stmt{Kind: api.StCheck, X: 1, C: -top - 1}, api.ErrStmt},
		{api.Zone{Vars: 0}, check, api.ErrStmt},
		{good, api.Stmt{Kind: api.StSkip, D: 1}, api.ErrStmt},
	} {
		z, e := post.Post(c.z, c.s)
		f, e2 := post.Fault(c.z, c.s)
		if e != c.e || e2 != c.e || z.Vars != 0 || len(z.M) != 0 || f.Vars != 0 || len(f.M) != 0 {
			t.Errorf("%d: %v, %d, %v, %d, want %d", k, z, e, f, e2, c.e)
		}
		if post.May(c.z, c.s) || post.Must(c.z, c.s) {
			t.Errorf("%d: at fault", k)
		}
	}
}

func TestShares(t *testing.T) {
	z, _ := zone.Box([]api.Itv{{Lo: 0, Hi: 3}})
	got, _ := post.Post(z, api.Stmt{Kind: api.StSkip})
	got.M[1] = 99
	if z.M[1] == 99 {
		t.Error("skip shares")
	}
}
