package result_test

import (
	"math"
	"math/rand"
	"slices"
	"strings"
	"testing"

	"warrantor/alarm"
	"warrantor/api"
	"warrantor/dbm"
	"warrantor/fix"
	"warrantor/order"
	"warrantor/prog"
	"warrantor/result"
	"warrantor/run"
	"warrantor/sound"
	"warrantor/zone"
)

func edge(from, to int, s api.Stmt) api.Edge { return api.Edge{From: from, To: to, Stmt: s} }

func spot(fn, file string, line int) api.Spot { return api.Spot{Func: fn, File: file, Line: line} }

func all(n int) api.Zone {
	z, _ := dbm.All(n)
	return z
}

// loop counts i up to 10, and checks it twice behind that.
func loop() api.Prog {
	return api.Prog{
		Name:  "count",
		Vars:  []string{"i", "n"},
		Spots: []api.Spot{spot("main", "a.w", 1), spot("main", "a.w", 2), spot("main", "a.w", 3), spot("last", "b.w", 9), spot("last", "b.w", 12)},
		Edges: []api.Edge{
			edge(0, 1, api.Stmt{Kind: api.StLet, X: 1}),
			edge(1, 2, api.Stmt{Kind: api.StLimit, X: 1, C: 9}),
			edge(2, 1, api.Stmt{Kind: api.StLet, X: 1, Y: 1, C: 1}),
			edge(1, 3, api.Stmt{Kind: api.StLimit, Y: 1, C: -10}),
			edge(3, 4, api.Stmt{Kind: api.StCheck, X: 1, C: 10}),
			edge(3, 4, api.Stmt{Kind: api.StCheck, X: 1, Y: 2, C: 0}),
			edge(3, 4, api.Stmt{Kind: api.StCheck, X: 1, C: 4}),
		},
	}
}

var marks = []api.Mark{{Finger: 0, Note: ""}, {Finger: 7, Note: "known"}, {Finger: math.MaxUint64, Note: "a \"note\""}}

func made(t *testing.T) api.Result {
	t.Helper()
	r, e := result.Make(loop(), all(2), slices.Clone(marks))
	if e != api.OK {
		t.Fatal("Make:", e)
	}
	return r
}

func TestMake(t *testing.T) {
	p, first := loop(), all(2)
	r := made(t)
	w, _ := order.Of(p)
	zones, _ := fix.Best(p, first)
	alarms, _ := alarm.Of(p, zones)
	want := api.Result{Prog: p, First: all(2), Wto: w, Zones: zones, Alarms: alarms, Marks: marks}
	if !result.Same(r, want) || result.Check(r) != api.OK || len(alarms) != 2 {
		t.Errorf("Make: %v, Check %d", r, result.Check(r))
	}
	if i, _ := zone.Itv(r.Zones[3], 1); i != (api.Itv{Lo: 10, Hi: 10}) {
		t.Error("behind the loop i is", i)
	}
	single := api.Prog{Name: "p", Spots: []api.Spot{spot("f", "a", 1)}}
	r, e := result.Make(single, all(0), nil)
	if e != api.OK || !slices.Equal(r.Wto.Points, []int{0}) || len(r.Zones) != 1 || !dbm.Same(r.Zones[0], all(0)) || len(r.Alarms) != 0 || result.Check(r) != api.OK {
		t.Error("one point:", r, e)
	}
	// What was made shares nothing with what it was made of.
	q, m := loop(), slices.Clone(marks)
	r, _ = result.Make(q, first, m)
	q.Vars[0], q.Spots[0].Line, q.Edges[0].To, m[1].Note, first.M[1] = "x", 99, 3, "other", 5
	if !result.Same(r, want) {
		t.Error("shared")
	}
}

// deep is a program whose order would be too deep.
func deep() api.Prog {
	p := api.Prog{Name: "p", Spots: slices.Repeat([]api.Spot{spot("f", "a", 1)}, 66)}
	for i := range 65 {
		p.Edges = append(p.Edges, edge(i, i+1, api.Stmt{Kind: api.StSkip}), edge(i+1, i, api.Stmt{Kind: api.StSkip}))
	}
	return p
}

func TestMakeWrong(t *testing.T) {
	bad := []api.Mark{{Finger: 1}, {Finger: 1}}
	for k, c := range []struct {
		p     api.Prog
		first api.Zone
		marks []api.Mark
		e     api.Errno
	}{
		{api.Prog{}, api.Zone{Vars: 9}, bad, api.ErrProg},
		{loop(), api.Zone{Vars: 9}, bad, api.ErrInit},
		{loop(), all(1), bad, api.ErrInit},
		{loop(), api.Zone{Vars: 2, M: []int{1}}, bad, api.ErrInit},
		{deep(), all(0), bad, api.ErrLong},
		{loop(), all(2), bad, api.ErrMark},
	} {
		if r, e := result.Make(c.p, c.first, c.marks); e != c.e || !result.Same(r, api.Result{}) {
			t.Errorf("%d: %v, %d, want %d", k, r, e, c.e)
		}
	}
}

func TestBase(t *testing.T) {
	rise := func(n int) []api.Mark {
		var l []api.Mark
		for i := range n {
			l = append(l, api.Mark{Finger: uint64(i)})
		}
		return l
	}
	note := func(s string) []api.Mark { return []api.Mark{{Finger: 5, Note: s}} }
	for k, c := range []struct {
		l []api.Mark
		e api.Errno
	}{
		{nil, api.OK},
		{marks, api.OK},
		{rise(1024), api.OK},
		{rise(1025), api.ErrMark},
		{[]api.Mark{{Finger: 2}, {Finger: 2}}, api.ErrMark},
		{[]api.Mark{{Finger: 2}, {Finger: 1}}, api.ErrMark},
		{[]api.Mark{{Finger: 1}, {Finger: 3}, {Finger: 2}}, api.ErrMark},
		{note(strings.Repeat("n", 64)), api.OK},
		{note(strings.Repeat("n", 65)), api.ErrMark},
		{note(" ~"), api.OK},
		{note("\x1f"), api.ErrMark},
		{note("\x7f"), api.ErrMark},
		{note("a\n"), api.ErrMark},
		{note("é"), api.ErrMark},
		{note("\xff"), api.ErrMark},
	} {
		if e := result.Base(c.l); e != c.e {
			t.Errorf("%d: %d, want %d", k, e, c.e)
		}
	}
}

// clone tells the same result, none of it shared.
func clone(r api.Result) api.Result {
	r.Prog.Vars, r.Prog.Spots, r.Prog.Edges = slices.Clone(r.Prog.Vars), slices.Clone(r.Prog.Spots), slices.Clone(r.Prog.Edges)
	r.First.M = slices.Clone(r.First.M)
	r.Wto.Points, r.Wto.Spans = slices.Clone(r.Wto.Points), slices.Clone(r.Wto.Spans)
	r.Zones = slices.Clone(r.Zones)
	for i := range r.Zones {
		r.Zones[i].M = slices.Clone(r.Zones[i].M)
	}
	r.Alarms, r.Marks = slices.Clone(r.Alarms), slices.Clone(r.Marks)
	return r
}

func TestCheck(t *testing.T) {
	bad := api.Zone{Vars: 2, M: []int{1}}
	// Each change breaks one thing more, from the last asked to the first one.
	changes := []struct {
		change func(*api.Result)
		e      api.Errno
	}{
		{func(r *api.Result) { r.Marks[1].Finger = 0 }, api.ErrMark},
		{func(r *api.Result) { r.Alarms = r.Alarms[1:] }, api.ErrAlarm},
		{func(r *api.Result) { r.Zones[2], _ = zone.Limit(r.Zones[2], 1, 0, 3) }, api.ErrSound},
		{func(r *api.Result) { r.Zones[2] = bad }, api.ErrZone},
		{func(r *api.Result) { r.Wto.Spans = make([]int, 5) }, api.ErrOrder},
		{func(r *api.Result) { r.Wto.Points[1] = 0 }, api.ErrWto},
		{func(r *api.Result) { r.Wto.Points = make([]int, 129) }, api.ErrLong},
		{func(r *api.Result) { r.First = bad }, api.ErrInit},
		{func(r *api.Result) { r.Prog.Name = "" }, api.ErrProg},
	}
	some := made(t)
	for k, c := range changes {
		alone := clone(made(t))
		c.change(&alone)
		c.change(&some)
		if e := result.Check(alone); e != c.e {
			t.Errorf("%d alone: %d, want %d", k, e, c.e)
		}
		if e := result.Check(some); e != c.e {
			t.Errorf("%d and those ahead: %d, want %d", k, e, c.e)
		}
	}
	for k, c := range []struct {
		change func(*api.Result)
		e      api.Errno
	}{
		{func(r *api.Result) { r.First = all(1) }, api.ErrInit},
		{func(r *api.Result) { r.First = api.Zone{Vars: 2} }, api.OK},
		{func(r *api.Result) { r.Wto = api.Wto{} }, api.ErrOrder},
		{func(r *api.Result) { r.Wto.Points = append(r.Wto.Points, 5); r.Wto.Spans = append(r.Wto.Spans, 0) }, api.ErrOrder},
		{func(r *api.Result) { r.Zones = r.Zones[:4] }, api.ErrZone},
		{func(r *api.Result) { r.Zones = append(r.Zones, all(2)) }, api.ErrZone},
		{func(r *api.Result) { r.Zones[3] = all(1) }, api.ErrZone},
		{func(r *api.Result) { r.Zones[0] = api.Zone{Vars: 2} }, api.ErrSound},
		{func(r *api.Result) { r.Zones[3], r.Zones[4] = all(2), all(2) }, api.ErrAlarm}, // it holds, but there are other alarms by it
		{func(r *api.Result) { r.Alarms[0], r.Alarms[1] = r.Alarms[1], r.Alarms[0] }, api.ErrAlarm},
		{func(r *api.Result) { r.Alarms = append(r.Alarms, r.Alarms[1]) }, api.ErrAlarm},
		{func(r *api.Result) { r.Alarms[0].Line++ }, api.ErrAlarm},
		{func(r *api.Result) { r.Alarms[0].Sev ^= 3 }, api.ErrAlarm},
		{func(r *api.Result) { r.Alarms = nil }, api.ErrAlarm},
		{func(r *api.Result) { r.Marks = nil }, api.OK},
		{func(r *api.Result) { r.Marks[2].Note += strings.Repeat("x", 64) }, api.ErrMark},
		{func(r *api.Result) { r.Prog.Vars[0] = "n" }, api.ErrProg},
	} {
		r := clone(made(t))
		c.change(&r)
		if e := result.Check(r); e != c.e {
			t.Errorf("%d: %d, want %d", k, e, c.e)
		}
	}
	// Other zones that hold, with their alarms, are right, too.
	r := made(t)
	r.Zones[3], r.Zones[4] = all(2), all(2)
	r.Alarms, _ = alarm.Of(r.Prog, r.Zones)
	if e := result.Check(r); e != api.OK || len(r.Alarms) != 3 {
		t.Error("another row of zones:", e, r.Alarms)
	}
}

func TestSame(t *testing.T) {
	a := made(t)
	for k, change := range []func(*api.Result){
		func(r *api.Result) { r.Prog.Name = "x" },
		func(r *api.Result) { r.Prog.Spots[0].Line++ },
		func(r *api.Result) { r.First.M[1]-- },
		func(r *api.Result) { r.First.Vars-- },
		func(r *api.Result) { r.Wto.Points[0]++ },
		func(r *api.Result) { r.Wto.Spans[0]++ },
		func(r *api.Result) { r.Zones[1].M[2]-- },
		func(r *api.Result) { r.Zones[1].M = nil },
		func(r *api.Result) { r.Zones = r.Zones[:3] },
		func(r *api.Result) { r.Alarms[1].Expr += " " },
		func(r *api.Result) { r.Alarms = r.Alarms[1:] },
		func(r *api.Result) { r.Marks[0].Note = "x" },
		func(r *api.Result) { r.Marks[0].Finger++ },
		func(r *api.Result) { r.Marks = r.Marks[:2] },
	} {
		b := clone(a)
		change(&b)
		if result.Same(a, b) || result.Same(b, a) || !result.Same(b, b) {
			t.Errorf("%d: Same", k)
		}
	}
	empty := api.Result{Prog: api.Prog{Vars: []string{}}, Zones: []api.Zone{}, Alarms: []api.Alarm{}, Marks: []api.Mark{}}
	if !result.Same(a, clone(a)) || !result.Same(empty, api.Result{}) {
		t.Error("Same")
	}
}

func TestTexts(t *testing.T) {
	r := made(t)
	want := []string{"", "a \"note\"", "a.w", "b.w", "count", "i", "i - n <= 0", "i <= 4", "known", "last", "main", "n"}
	if got := result.Texts(r); !slices.Equal(got, want) {
		t.Errorf("%q", got)
	}
	if got := result.Texts(api.Result{}); !slices.Equal(got, []string{""}) {
		t.Errorf("of nothing: %q", got)
	}
	wrong := api.Result{Prog: api.Prog{Name: "z", Vars: []string{"z", "b"}}, Alarms: []api.Alarm{{Func: "c", File: "d", Expr: "e"}}}
	if got := result.Texts(wrong); !slices.Equal(got, []string{"b", "c", "d", "e", "z"}) {
		t.Errorf("of what is not right: %q", got)
	}
}

func statement(r *rand.Rand) api.Stmt {
	for {
		s := api.Stmt{Kind: 1 + r.Intn(5), X: r.Intn(3), Y: r.Intn(3), C: r.Intn(9) - 4}
		switch s.Kind {
		case api.StSkip:
			s = api.Stmt{Kind: api.StSkip}
		case api.StAny:
			s.Y, s.D = 0, s.C+r.Intn(5)
		}
		if prog.Right(s, 2) {
			return s
		}
	}
}

// Whatever is made is right, and no run of it is at fault without an alarm, or elsewhere than in its zones.
func TestMadeIsRight(t *testing.T) {
	r := rand.New(rand.NewSource(1))
	for range 500 {
		n := 1 + r.Intn(6)
		p := api.Prog{Name: "p", Vars: []string{"x", "y"}}
		for i := range n {
			p.Spots = append(p.Spots, spot("f", "a", i+1))
		}
		for range r.Intn(3 * n) {
			p.Edges = append(p.Edges, edge(r.Intn(n), r.Intn(n), statement(r)))
		}
		first, _ := zone.Limit(all(2), 1, 2, r.Intn(5))
		x, e := result.Make(p, first, nil)
		if e != api.OK || result.Check(x) != api.OK {
			t.Fatalf("%v is made as %v, %d", p, x, e)
		}
		v, _ := dbm.Point(first, 0)
		s := api.State{Vals: v}
		for range 10 {
			if !sound.Has(p, x.Zones, s) {
				t.Fatalf("%v is outside", s)
			}
			if next, e := run.Step(p, s, api.Choice{Edge: r.Intn(len(p.Edges) + 1), V: r.Intn(9)}); e == api.OK {
				s = next
			}
		}
	}
}
