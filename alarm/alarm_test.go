package alarm_test

import (
	"cmp"
	"math"
	"math/rand"
	"slices"
	"strings"
	"testing"

	"warrantor/alarm"
	"warrantor/api"
	"warrantor/dbm"
	"warrantor/fix"
	"warrantor/prog"
	"warrantor/run"
	"warrantor/zone"
)

const top = api.MaxVal

func base() api.Alarm {
	return api.Alarm{Kind: api.AlDiff, Sev: api.SevMay, Func: "main", File: "lib/a-b.w", Line: 7, Expr: "i - n <= 0"}
}

func TestCheck(t *testing.T) {
	for k, c := range []struct {
		change func(*api.Alarm)
		right  bool
	}{
		{func(*api.Alarm) {}, true},
		{func(a *api.Alarm) { a.Kind = api.AlLower }, true},
		{func(a *api.Alarm) { a.Kind = 0 }, false},
		{func(a *api.Alarm) { a.Kind = 4 }, false},
		{func(a *api.Alarm) { a.Kind = -1 }, false},
		{func(a *api.Alarm) { a.Sev = api.SevMust }, true},
		{func(a *api.Alarm) { a.Sev = 0 }, false},
		{func(a *api.Alarm) { a.Sev = 3 }, false},
		{func(a *api.Alarm) { a.Func = "" }, false},
		{func(a *api.Alarm) { a.Func = "a/b" }, false},
		{func(a *api.Alarm) { a.Func = "1" }, false},
		{func(a *api.Alarm) { a.Func = "skip" }, true},
		{func(a *api.Alarm) { a.Func = strings.Repeat("f", 32) }, true},
		{func(a *api.Alarm) { a.Func = strings.Repeat("f", 33) }, false},
		{func(a *api.Alarm) { a.File = "" }, false},
		{func(a *api.Alarm) { a.File = "/a" }, false},
		{func(a *api.Alarm) { a.File = "a b" }, false},
		{func(a *api.Alarm) { a.File = strings.Repeat("f", 64) }, true},
		{func(a *api.Alarm) { a.File = strings.Repeat("f", 65) }, false},
		{func(a *api.Alarm) { a.Line = 0 }, false},
		{func(a *api.Alarm) { a.Line = 1 }, true},
		{func(a *api.Alarm) { a.Line = 1 << 20 }, true},
		{func(a *api.Alarm) { a.Line = 1<<20 + 1 }, false},
		{func(a *api.Alarm) { a.Line = math.MinInt }, false},
		{func(a *api.Alarm) { a.Expr = "" }, false},
		{func(a *api.Alarm) { a.Expr = " " }, true},
		{func(a *api.Alarm) { a.Expr = "~" }, true},
		{func(a *api.Alarm) { a.Expr = "any\\\"thing" }, true},
		{func(a *api.Alarm) { a.Expr = "a\x7f" }, false},
		{func(a *api.Alarm) { a.Expr = "a\x1f" }, false},
		{func(a *api.Alarm) { a.Expr = "a\n" }, false},
		{func(a *api.Alarm) { a.Expr = "é" }, false},
		{func(a *api.Alarm) { a.Expr = "\xff" }, false},
		{func(a *api.Alarm) { a.Expr = strings.Repeat("x", 128) }, true},
		{func(a *api.Alarm) { a.Expr = strings.Repeat("x", 129) }, false},
	} {
		a := base()
		c.change(&a)
		want := api.ErrAlarm
		if c.right {
			want = api.OK
		}
		if e := alarm.Check(a); e != want {
			t.Errorf("%d: Check(%v) = %d", k, a, e)
		}
	}
}

// ahead tells the order by one key each, what counts most first.
func ahead(a, b api.Alarm) int {
	return cmp.Or(strings.Compare(a.File, b.File), cmp.Compare(a.Line, b.Line), strings.Compare(a.Func, b.Func), cmp.Compare(a.Kind, b.Kind), strings.Compare(a.Expr, b.Expr), cmp.Compare(a.Sev, b.Sev))
}

func chance(r *rand.Rand) api.Alarm {
	word := func() string { return []string{"a", "b", "ab", "", "Z", "\xff"}[r.Intn(6)] }
	number := func() int { return []int{1, 2, 3, -1, 10, math.MaxInt, math.MinInt}[r.Intn(7)] }
	return api.Alarm{Kind: number(), Sev: number(), Func: word(), File: word(), Line: number(), Expr: word()}
}

func TestCmpSort(t *testing.T) {
	rise := []api.Alarm{
		{File: "a", Line: 3, Func: "z", Kind: 3, Expr: "z", Sev: 2},
		{File: "b", Line: 1, Func: "z", Kind: 3, Expr: "z", Sev: 2},
		{File: "b", Line: 2, Func: "f", Kind: 3, Expr: "z", Sev: 2},
		{File: "b", Line: 2, Func: "g", Kind: 1, Expr: "z", Sev: 2},
		{File: "b", Line: 2, Func: "g", Kind: 2, Expr: "a", Sev: 2},
		{File: "b", Line: 2, Func: "g", Kind: 2, Expr: "b", Sev: 1},
		{File: "b", Line: 2, Func: "g", Kind: 2, Expr: "b", Sev: 2},
		{File: "b", Line: 10, Func: "a", Kind: 1, Expr: "a", Sev: 1},
	}
	for i, a := range rise {
		for j, b := range rise {
			if got := alarm.Cmp(a, b); got != cmp.Compare(i, j) {
				t.Errorf("Cmp(%v, %v) = %d", a, b, got)
			}
		}
	}
	r := rand.New(rand.NewSource(1))
	for range 2000 {
		a, b := chance(r), chance(r)
		if alarm.Cmp(a, b) != ahead(a, b) || alarm.Cmp(a, a) != 0 {
			t.Fatalf("Cmp(%v, %v) = %d", a, b, alarm.Cmp(a, b))
		}
	}
	for range 100 {
		var l []api.Alarm
		for range r.Intn(30) {
			l = append(l, chance(r))
		}
		old := slices.Clone(l)
		want := slices.Clone(l)
		slices.SortFunc(want, ahead)
		if got := alarm.Sort(l); !slices.Equal(got, want) || !slices.Equal(l, old) {
			t.Fatalf("Sort(%v) = %v", old, got)
		}
	}
	if len(alarm.Sort(nil)) != 0 {
		t.Error("Sort of none")
	}
}

func TestSame(t *testing.T) {
	a, b := base(), base()
	b.Line = 8
	for k, c := range []struct {
		x, y []api.Alarm
		want bool
	}{{nil, []api.Alarm{}, true}, {[]api.Alarm{a, b}, []api.Alarm{a, b}, true}, {[]api.Alarm{a, b}, []api.Alarm{b, a}, false}, {[]api.Alarm{a}, []api.Alarm{a, a}, false}, {nil, []api.Alarm{a}, false}} {
		if alarm.Same(c.x, c.y) != c.want || alarm.Same(c.y, c.x) != c.want {
			t.Errorf("%d: Same", k)
		}
	}
	for k, change := range []func(*api.Alarm){func(a *api.Alarm) { a.Kind++ }, func(a *api.Alarm) { a.Sev++ }, func(a *api.Alarm) { a.Func += "x" }, func(a *api.Alarm) { a.File += "x" }, func(a *api.Alarm) { a.Line++ }, func(a *api.Alarm) { a.Expr += "x" }} {
		c := base()
		change(&c)
		if alarm.Same([]api.Alarm{a}, []api.Alarm{c}) {
			t.Errorf("%d: Same", k)
		}
	}
}

func box(l ...int) api.Zone {
	var in []api.Itv
	for i := 0; i < len(l); i += 2 {
		in = append(in, api.Itv{Lo: l[i], Hi: l[i+1]})
	}
	z, _ := zone.Box(in)
	return z
}

// checks is a program with two points, at which 0 <= i <= 3, n is 2, and checks that lead from the first one to the second one, whose zone has all.
func checks(l ...api.Stmt) (api.Prog, []api.Zone) {
	p := api.Prog{Name: "p", Vars: []string{"i", "n"}, Spots: []api.Spot{{Func: "main", File: "b.w", Line: 9}, {Func: "f", File: "a.w", Line: 3}}}
	for _, s := range l {
		p.Edges = append(p.Edges, api.Edge{From: 0, To: 1, Stmt: s})
	}
	return p, []api.Zone{box(0, 3, 2, 2), box(-top, top, -top, top)}
}

func TestEdge(t *testing.T) {
	for k, c := range []struct {
		s    api.Stmt
		want api.Alarm
	}{
		{api.Stmt{Kind: api.StCheck, X: 1, Y: 2, C: 0}, api.Alarm{Kind: api.AlDiff, Sev: api.SevMay, Expr: "i - n <= 0"}},
		{api.Stmt{Kind: api.StCheck, X: 1, Y: 2, C: 1}, api.Alarm{}},
		{api.Stmt{Kind: api.StCheck, X: 1, Y: 2, C: -3}, api.Alarm{Kind: api.AlDiff, Sev: api.SevMust, Expr: "i - n <= -3"}},
		{api.Stmt{Kind: api.StCheck, X: 1, Y: 2, C: -2}, api.Alarm{Kind: api.AlDiff, Sev: api.SevMay, Expr: "i - n <= -2"}},
		{api.Stmt{Kind: api.StCheck, X: 1, C: 2}, api.Alarm{Kind: api.AlUpper, Sev: api.SevMay, Expr: "i <= 2"}},
		{api.Stmt{Kind: api.StCheck, X: 1, C: 3}, api.Alarm{}},
		{api.Stmt{Kind: api.StCheck, X: 2, C: -top}, api.Alarm{Kind: api.AlUpper, Sev: api.SevMust, Expr: "n <= -inf"}},
		{api.Stmt{Kind: api.StCheck, Y: 1, C: -1}, api.Alarm{Kind: api.AlLower, Sev: api.SevMay, Expr: "-i <= -1"}},
		{api.Stmt{Kind: api.StCheck, Y: 1, C: -4}, api.Alarm{Kind: api.AlLower, Sev: api.SevMust, Expr: "-i <= -4"}},
		{api.Stmt{Kind: api.StCheck, Y: 1, C: 0}, api.Alarm{}},
		{api.Stmt{Kind: api.StLimit, X: 1, C: -4}, api.Alarm{}},
		{api.Stmt{Kind: api.StSkip}, api.Alarm{}},
		{api.Stmt{Kind: api.StLet, X: 1, Y: 1, C: top}, api.Alarm{}},
	} {
		if c.want != (api.Alarm{}) {
			c.want.Func, c.want.File, c.want.Line = "main", "b.w", 9
		}
		p, l := checks(api.Stmt{Kind: api.StSkip}, c.s)
		a, ok := alarm.Edge(p, l, 1)
		if a != c.want || ok != (c.want != api.Alarm{}) || ok && alarm.Check(a) != api.OK {
			t.Errorf("%d: %v, %v, want %v", k, a, ok, c.want)
		}
		l[0] = api.Zone{Vars: 2}
		if a, ok := alarm.Edge(p, l, 1); ok || a != (api.Alarm{}) {
			t.Errorf("%d: an alarm where nothing comes to: %v", k, a)
		}
	}
}

func TestWrong(t *testing.T) {
	p, l := checks(api.Stmt{Kind: api.StCheck, X: 1, C: 0})
	bad := api.Zone{Vars: 2, M: []int{1}}
	none := p
	none.Name = ""
	for k, c := range []struct {
		p api.Prog
		l []api.Zone
		i int
		e api.Errno
	}{
		{p, l, -1, api.OK},
		{p, l, 1, api.OK},
		{p, l, math.MaxInt, api.OK},
		{none, l, 0, api.ErrProg},
		{none, nil, 0, api.ErrProg},
		{p, l[:1], 0, api.ErrZone},
		{p, append(slices.Clone(l), l[0]), 0, api.ErrZone},
		{p, []api.Zone{l[0], bad}, 0, api.ErrZone},
		{p, []api.Zone{l[0], box(0, 1)}, 0, api.ErrZone},
		{p, nil, 0, api.ErrZone},
	} {
		if a, ok := alarm.Edge(c.p, c.l, c.i); ok || a != (api.Alarm{}) {
			t.Errorf("%d: %v", k, a)
		}
		if got, e := alarm.Of(c.p, c.l); e != c.e || e != api.OK && len(got) != 0 {
			t.Errorf("%d: %v, %d, want %d", k, got, e, c.e)
		}
	}
}

func TestOf(t *testing.T) {
	p, l := checks(
		api.Stmt{Kind: api.StCheck, X: 1, C: 2},
		api.Stmt{Kind: api.StCheck, X: 1, C: 3},
		api.Stmt{Kind: api.StCheck, X: 1, Y: 2, C: 0},
		api.Stmt{Kind: api.StCheck, X: 1, C: 2},
		api.Stmt{Kind: api.StCheck, X: 1, C: 1},
	)
	p.Edges = append(p.Edges, api.Edge{From: 1, To: 1, Stmt: api.Stmt{Kind: api.StCheck, X: 2, C: 0}})
	main := func(kind int, expr string) api.Alarm {
		return api.Alarm{Kind: kind, Sev: api.SevMay, Func: "main", File: "b.w", Line: 9, Expr: expr}
	}
	want := []api.Alarm{
		{Kind: api.AlUpper, Sev: api.SevMay, Func: "f", File: "a.w", Line: 3, Expr: "n <= 0"},
		main(api.AlDiff, "i - n <= 0"), main(api.AlUpper, "i <= 1"), main(api.AlUpper, "i <= 2"), main(api.AlUpper, "i <= 2"),
	}
	if got, e := alarm.Of(p, l); e != api.OK || !alarm.Same(got, want) {
		t.Errorf("%v, %d, want %v", got, e, want)
	}
	p.Edges = p.Edges[1:2]
	if got, e := alarm.Of(p, l); e != api.OK || len(got) != 0 {
		t.Errorf("%v, %d", got, e)
	}
}

func statement(r *rand.Rand) api.Stmt {
	for {
		s := api.Stmt{Kind: []int{2, 3, 4, 5, 5, 5}[r.Intn(6)], X: r.Intn(3), Y: r.Intn(3), C: r.Intn(9) - 4}
		if s.Kind == api.StAny {
			s.Y, s.D = 0, s.C+r.Intn(5)
		}
		if prog.Right(s, 2) {
			return s
		}
	}
}

// By zones that hold a run's fault has an alarm; if that must be, nothing goes on.
func TestFaults(t *testing.T) {
	r := rand.New(rand.NewSource(2))
	faults, musts := 0, 0
	for range 800 {
		n := 1 + r.Intn(4)
		p := api.Prog{Name: "p", Vars: []string{"x", "y"}}
		for i := range n {
			p.Spots = append(p.Spots, api.Spot{Func: "f", File: "a", Line: i + 1})
		}
		for range 1 + r.Intn(3*n) {
			p.Edges = append(p.Edges, api.Edge{From: r.Intn(n), To: r.Intn(n), Stmt: statement(r)})
		}
		first := box(0, r.Intn(4), -2, r.Intn(4)-2)
		l, e := fix.Best(p, first)
		if e != api.OK {
			t.Fatal(e)
		}
		of, _ := alarm.Of(p, l)
		var each []api.Alarm
		for i := range p.Edges {
			if a, ok := alarm.Edge(p, l, i); ok {
				each = append(each, a)
			}
		}
		if !alarm.Same(alarm.Sort(each), of) || slices.ContainsFunc(of, func(a api.Alarm) bool { return alarm.Check(a) != api.OK }) {
			t.Fatalf("Of tells %v, Edge %v", of, each)
		}
		v, _ := dbm.Point(first, r.Intn(3))
		s := api.State{Vals: v}
		for range 15 {
			c := api.Choice{Edge: r.Intn(len(p.Edges)), V: r.Intn(9) - 4}
			next, e := run.Step(p, s, c)
			a, ok := alarm.Edge(p, l, c.Edge)
			if e == api.ErrFault {
				faults++
				if !ok {
					t.Fatalf("a fault at %v by %v without an alarm", s, p.Edges[c.Edge])
				}
			}
			if ok && a.Sev == api.SevMust {
				musts++
				if e == api.OK {
					t.Fatalf("%v goes on at %v", a, s)
				}
			}
			if e == api.OK {
				s = next
			}
		}
	}
	if faults < 50 || musts < 50 {
		t.Error(faults, musts)
	}
}
