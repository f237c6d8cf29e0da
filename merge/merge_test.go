package merge_test

import (
	"math/rand"
	"slices"
	"testing"

	"warrantor/alarm"
	"warrantor/api"
	"warrantor/base"
	"warrantor/dbm"
	"warrantor/fix"
	"warrantor/merge"
	"warrantor/order"
	"warrantor/prog"
	"warrantor/result"
	"warrantor/zone"
)

func edge(from, to int, s api.Stmt) api.Edge { return api.Edge{From: from, To: to, Stmt: s} }

func box(l ...int) api.Zone {
	var in []api.Itv
	for i := 0; i < len(l); i += 2 {
		in = append(in, api.Itv{Lo: l[i], Hi: l[i+1]})
	}
	z, _ := zone.Box(in)
	return z
}

const top = api.MaxVal

// program is one of two points: x is 3 to 9, and then checked.
func program() api.Prog {
	p := api.Prog{Name: "p", Vars: []string{"x"}, Spots: slices.Repeat([]api.Spot{{Func: "f", File: "a", Line: 1}}, 3)}
	p.Edges = []api.Edge{
		edge(0, 1, api.Stmt{Kind: api.StAny, X: 1, C: 3, D: 9}),
		edge(1, 2, api.Stmt{Kind: api.StCheck, X: 1, C: 9}),
		edge(1, 2, api.Stmt{Kind: api.StCheck, Y: 1, C: -3}),
		edge(1, 2, api.Stmt{Kind: api.StCheck, X: 1, C: 5}),
	}
	return p
}

// of is the result of a program with these zones, and marks.
func of(p api.Prog, first api.Zone, zones []api.Zone, marks ...api.Mark) api.Result {
	w, _ := order.Of(p)
	alarms, _ := alarm.Of(p, zones)
	return api.Result{Prog: p, First: first, Wto: w, Zones: zones, Alarms: alarms, Marks: marks}
}

var all = box(-top, top)

func upper() api.Result {
	return of(program(), all, []api.Zone{all, box(-top, 9), box(-top, 9)}, api.Mark{Finger: 1, Note: "a"}, api.Mark{Finger: 2, Note: "b"})
}

func lower() api.Result {
	return of(program(), all, []api.Zone{all, box(3, top), all}, api.Mark{Finger: 2, Note: "c"}, api.Mark{Finger: 3})
}

func TestTwo(t *testing.T) {
	a, b := upper(), lower()
	if result.Check(a) != api.OK || result.Check(b) != api.OK || len(a.Alarms) != 2 || len(b.Alarms) != 2 {
		t.Fatal(result.Check(a), result.Check(b), a.Alarms, b.Alarms)
	}
	want := of(program(), all, []api.Zone{all, box(3, 9), box(-top, 9)}, api.Mark{Finger: 1, Note: "a"}, api.Mark{Finger: 2, Note: "c"}, api.Mark{Finger: 3})
	for _, two := range [][2]api.Result{{a, b}, {b, a}} {
		m, e := merge.Two(two[0], two[1])
		if e != api.OK || !result.Same(m, want) || len(m.Alarms) != 1 || result.Check(m) != api.OK {
			t.Errorf("%v, %d, want %v", m, e, want)
		}
	}
	for _, r := range []api.Result{a, b} {
		m, e := merge.Two(r, r)
		if e != api.OK || !result.Same(m, r) {
			t.Errorf("with itself: %v, %d", m, e)
		}
		m, e = merge.All([]api.Result{r})
		if e != api.OK || !result.Same(m, r) {
			t.Errorf("alone: %v, %d", m, e)
		}
	}
	// What was merged stays as it was.
	m, _ := merge.Two(a, b)
	m.Prog.Vars[0], m.Prog.Spots[0].Line, m.Prog.Edges[0].To, m.First.M[1], m.Wto.Points[0], m.Zones[0].M[1], m.Marks[0].Note = "q", 7, 0, 1, 9, 2, "x"
	if !result.Same(a, upper()) || !result.Same(b, lower()) {
		t.Error("shared")
	}
}

func TestWrong(t *testing.T) {
	with := func(r api.Result, change func(*api.Result)) api.Result {
		change(&r)
		return r
	}
	noProg := with(upper(), func(r *api.Result) { r.Prog.Name = "" })
	noMarks := with(upper(), func(r *api.Result) { r.Marks = []api.Mark{{Finger: 1}, {Finger: 1}} })
	otherProg := with(upper(), func(r *api.Result) { r.Prog.Name = "q" })
	otherFirst := with(upper(), func(r *api.Result) { r.First = box(0, 3) })
	otherOrder := with(upper(), func(r *api.Result) { r.Wto = api.Wto{Points: []int{0, 1, 2}, Spans: []int{0, 0, 1}} })
	many := func(from uint64) api.Result {
		return with(upper(), func(r *api.Result) {
			r.Marks = nil
			for i := range 513 {
				r.Marks = append(r.Marks, api.Mark{Finger: from + 2*uint64(i)})
			}
		})
	}
	for _, r := range []api.Result{otherProg, otherFirst, otherOrder, many(0)} {
		if result.Check(r) != api.OK {
			t.Fatal(result.Check(r))
		}
	}
	for k, c := range []struct {
		a, b api.Result
		e    api.Errno
	}{
		{noProg, noMarks, api.ErrProg},
		{noMarks, noProg, api.ErrMark},
		{upper(), noProg, api.ErrProg},
		{upper(), noMarks, api.ErrMark},
		{noMarks, otherProg, api.ErrMark},
		{otherProg, noMarks, api.ErrMark},
		{upper(), otherProg, api.ErrMerge},
		{upper(), otherFirst, api.ErrMerge},
		{upper(), otherOrder, api.ErrMerge},
		{many(0), with(many(1), func(r *api.Result) { r.Prog.Name = "q" }), api.ErrMerge},
		{many(0), many(1), api.ErrLong},
		{many(0), many(0), api.OK},
	} {
		m, e := merge.Two(c.a, c.b)
		if e != c.e || e != api.OK && !result.Same(m, api.Result{}) {
			t.Errorf("%d: %d, want %d", k, e, c.e)
		}
		m, e = merge.All([]api.Result{c.a, c.b, {}})
		want := c.e
		if want == api.OK {
			want = api.ErrProg
		}
		if e != want || !result.Same(m, api.Result{}) {
			t.Errorf("All %d: %d, want %d", k, e, want)
		}
	}
	if m, e := merge.All(nil); e != api.ErrNone || !result.Same(m, api.Result{}) {
		t.Error("of none:", e)
	}
	if m, e := merge.All([]api.Result{noMarks}); e != api.ErrMark || !result.Same(m, api.Result{}) {
		t.Error("of one that is not right:", e)
	}
}

func statement(r *rand.Rand) api.Stmt {
	for {
		s := api.Stmt{Kind: []int{1, 2, 2, 3, 4, 5, 5}[r.Intn(7)], X: r.Intn(3), Y: r.Intn(3), C: r.Intn(9) - 4}
		switch s.Kind {
		case api.StSkip:
			s = api.Stmt{Kind: api.StSkip}
		case api.StAny:
			s.Y, s.D = 0, s.C+r.Intn(5)
		}
		if prog.Right(s, 2) {
			return s
		}
	}
}

// another is a result of a program that knows more or less: solved by other numbers, or from some zones on that are wider.
func another(r *rand.Rand, p api.Prog, first api.Zone) api.Result {
	w, _ := order.Of(p)
	wide := first
	if r.Intn(2) == 0 {
		wide, _ = zone.Join(first, box(r.Intn(30)-15, 3, r.Intn(30)-15, 3))
	}
	zones, _, _ := fix.Solve(p, wide, w, r.Intn(5), r.Intn(3))
	var marks []api.Mark
	for i := range 4 {
		if r.Intn(2) == 0 {
			marks = append(marks, api.Mark{Finger: uint64(i), Note: []string{"", "a", "b"}[r.Intn(3)]})
		}
	}
	return of(p, first, zones, marks...)
}

func TestChance(t *testing.T) {
	r := rand.New(rand.NewSource(1))
	fewer := 0
	for range 300 {
		n := 1 + r.Intn(6)
		p := api.Prog{Name: "p", Vars: []string{"x", "y"}}
		for i := range n {
			p.Spots = append(p.Spots, api.Spot{Func: "f", File: "a", Line: i + 1})
		}
		for range r.Intn(3 * n) {
			p.Edges = append(p.Edges, edge(r.Intn(n), r.Intn(n), statement(r)))
		}
		first := box(0, r.Intn(5), -2, r.Intn(3))
		l := []api.Result{another(r, p, first), another(r, p, first), another(r, p, first)}
		m, e := merge.All(l)
		if e != api.OK || result.Check(m) != api.OK {
			t.Fatal(e, result.Check(m))
		}
		r.Shuffle(3, func(i, j int) { l[i], l[j] = l[j], l[i] })
		if back, _ := merge.All(l); !result.Same(m, back) {
			t.Fatal("another order makes another merge")
		}
		for _, x := range l {
			for i := range m.Zones {
				if in, _ := zone.Leq(m.Zones[i], x.Zones[i]); !in {
					t.Fatal("a zone is not within")
				}
			}
			for i := range p.Edges {
				_, has := alarm.Edge(p, m.Zones, i)
				if _, had := alarm.Edge(p, x.Zones, i); has && !had {
					t.Fatal("an alarm that was none")
				}
			}
			if len(m.Alarms) > len(x.Alarms) {
				t.Fatal("more alarms")
			}
			if less, _ := base.Less(x.Marks, m.Marks); len(less) > 0 {
				t.Fatal("marks are missing")
			}
		}
		for i := range m.Zones {
			want := l[0].Zones[i]
			for _, x := range l[1:] {
				want, _ = zone.Meet(want, x.Zones[i])
			}
			if !dbm.Same(want, m.Zones[i]) {
				t.Fatalf("the meet %v, want %v", m.Zones[i], want)
			}
		}
		if len(m.Alarms) < len(l[0].Alarms) {
			fewer++
		}
	}
	if fewer < 5 {
		t.Error(fewer)
	}
}
