package run_test

import (
	"math"
	"math/rand"
	"slices"
	"testing"

	"warrantor/api"
	"warrantor/prog"
	"warrantor/run"
)

const top = api.MaxVal

// program is one of two variables and three points, with an edge from 0 to 1 for each statement.
func program(l ...api.Stmt) api.Prog {
	p := api.Prog{Name: "p", Vars: []string{"x", "y"}, Spots: slices.Repeat([]api.Spot{{Func: "f", File: "a", Line: 1}}, 3)}
	for _, s := range l {
		p.Edges = append(p.Edges, api.Edge{From: 0, To: 1, Stmt: s})
	}
	return p
}

func state(point int, vals ...int) api.State { return api.State{Point: point, Vals: vals} }

func TestRight(t *testing.T) {
	p := program()
	for k, c := range []struct {
		p    api.Prog
		s    api.State
		want bool
	}{
		{p, state(0, 1, 2), true},
		{p, state(2, top, -top), true},
		{p, state(3, 1, 2), false},
		{p, state(-1, 1, 2), false},
		{p, state(0, 1), false},
		{p, state(0, 1, 2, 3), false},
		{p, state(0), false},
		{p, state(0, top+1, 0), false},
		{p, state(0, 0, -top-1), false},
		{p, state(0, math.MaxInt, math.MinInt), false},
		{api.Prog{}, state(0), false},
		{api.Prog{Name: "p", Spots: p.Spots}, state(1), true},
	} {
		if run.Right(c.p, c.s) != c.want {
			t.Errorf("%d: Right is %v", k, !c.want)
		}
	}
}

func TestStep(t *testing.T) {
	for k, c := range []struct {
		s    api.Stmt
		x, y int
		v    int
		want []int
		e    api.Errno
	}{
		{api.Stmt{Kind: api.StSkip}, 3, 4, 9, []int{3, 4}, api.OK},
		{api.Stmt{Kind: api.StLet, X: 1, C: 7}, 3, 4, 9, []int{7, 4}, api.OK},
		{api.Stmt{Kind: api.StLet, X: 2, C: -top}, 3, 4, 9, []int{3, -top}, api.OK},
		{api.Stmt{Kind: api.StLet, X: 1, Y: 2, C: 1}, 3, 4, 9, []int{5, 4}, api.OK},
		{api.Stmt{Kind: api.StLet, X: 2, Y: 2, C: -1}, 3, 4, 9, []int{3, 3}, api.OK},
		{api.Stmt{Kind: api.StLet, X: 1, Y: 1, C: 1}, top - 1, 4, 0, []int{top, 4}, api.OK},
		{api.Stmt{Kind: api.StLet, X: 1, Y: 1, C: 1}, top, 4, 0, nil, api.ErrStop},
		{api.Stmt{Kind: api.StLet, X: 1, Y: 2, C: -1}, 0, -top, 0, nil, api.ErrStop},
		{api.Stmt{Kind: api.StLet, X: 1, Y: 2, C: top}, 0, -top, 0, []int{0, -top}, api.OK},
		{api.Stmt{Kind: api.StLet, X: 1, Y: 2, C: top}, 0, top, 0, nil, api.ErrStop},
		{api.Stmt{Kind: api.StAny, X: 2, C: -1, D: 5}, 3, 4, -1, []int{3, -1}, api.OK},
		{api.Stmt{Kind: api.StAny, X: 2, C: -1, D: 5}, 3, 4, 5, []int{3, 5}, api.OK},
		{api.Stmt{Kind: api.StAny, X: 2, C: -1, D: 5}, 3, 4, 6, nil, api.ErrStop},
		{api.Stmt{Kind: api.StAny, X: 2, C: -1, D: 5}, 3, 4, -2, nil, api.ErrStop},
		{api.Stmt{Kind: api.StAny, X: 1, C: -top, D: top}, 3, 4, math.MaxInt, nil, api.ErrStop},
		{api.Stmt{Kind: api.StAny, X: 1, C: -top, D: top}, 3, 4, math.MinInt, nil, api.ErrStop},
		{api.Stmt{Kind: api.StLimit, X: 1, Y: 2, C: -1}, 3, 4, 0, []int{3, 4}, api.OK},
		{api.Stmt{Kind: api.StLimit, X: 1, Y: 2, C: -1}, 4, 4, 0, nil, api.ErrStop},
		{api.Stmt{Kind: api.StLimit, X: 1, C: 3}, 3, 9, 0, []int{3, 9}, api.OK},
		{api.Stmt{Kind: api.StLimit, X: 1, C: 3}, 4, 9, 0, nil, api.ErrStop},
		{api.Stmt{Kind: api.StLimit, Y: 1, C: -3}, 3, 9, 0, []int{3, 9}, api.OK},
		{api.Stmt{Kind: api.StLimit, Y: 1, C: -3}, 2, 9, 0, nil, api.ErrStop},
		{api.Stmt{Kind: api.StCheck, X: 1, C: 3}, 3, 9, 0, []int{3, 9}, api.OK},
		{api.Stmt{Kind: api.StCheck, X: 1, C: 3}, 4, 9, 0, nil, api.ErrFault},
		{api.Stmt{Kind: api.StCheck, X: 1, Y: 2, C: top}, top, -top, 0, nil, api.ErrFault},
		{api.Stmt{Kind: api.StCheck, X: 2, Y: 1, C: -top}, top, -top, 0, []int{top, -top}, api.OK},
	} {
		s := state(0, c.x, c.y)
		got, e := run.Step(program(c.s), s, api.Choice{V: c.v})
		want := api.State{}
		if c.e == api.OK {
			want = state(1, c.want...)
		}
		if e != c.e || !run.Same(got, want) {
			t.Errorf("%d: %v, %d, want %v, %d", k, got, e, want, c.e)
		}
		if !run.Same(s, state(0, c.x, c.y)) {
			t.Errorf("%d: the state is changed: %v", k, s)
		}
	}
}

func TestStepWrong(t *testing.T) {
	check := api.Stmt{Kind: api.StCheck, X: 1, C: 0}
	p := program(check, check)
	p.Edges[1].From = 2
	for k, c := range []struct {
		p    api.Prog
		s    api.State
		edge int
		e    api.Errno
	}{
		{api.Prog{}, state(9), 7, api.ErrProg},
		{p, state(3, 5, 5), 0, api.ErrArg},
		{p, state(0, 5), 0, api.ErrArg},
		{p, state(0, top+1, 0), 0, api.ErrArg},
		{p, state(0, 5, 5), 2, api.ErrArg},
		{p, state(0, 5, 5), -1, api.ErrArg},
		{p, state(0, 5, 5), math.MaxInt, api.ErrArg},
		{p, state(0, 5, 5), 1, api.ErrArg},
		{p, state(1, 5, 5), 0, api.ErrArg},
		{p, state(0, 5, 5), 0, api.ErrFault},
		{p, state(2, 5, 5), 1, api.ErrFault},
		{p, state(2, 0, 5), 1, api.OK},
	} {
		s, e := run.Step(c.p, c.s, api.Choice{Edge: c.edge})
		if e != c.e || e != api.OK && (s.Point != 0 || len(s.Vals) != 0) {
			t.Errorf("%d: %v, %d, want %d", k, s, e, c.e)
		}
	}
}

// count is a loop: at 0 x is 0, at 1 it is counted up to 3, at 2 it is checked.
func count() api.Prog {
	p := program(api.Stmt{Kind: api.StLet, X: 1})
	p.Edges = append(p.Edges,
		api.Edge{From: 1, To: 1, Stmt: api.Stmt{Kind: api.StLet, X: 1, Y: 1, C: 1}},
		api.Edge{From: 1, To: 2, Stmt: api.Stmt{Kind: api.StLimit, Y: 1, C: -3}},
		api.Edge{From: 2, To: 0, Stmt: api.Stmt{Kind: api.StCheck, X: 1, C: 3}},
	)
	return p
}

func TestRun(t *testing.T) {
	choices := func(l ...int) []api.Choice {
		var out []api.Choice
		for _, e := range l {
			out = append(out, api.Choice{Edge: e})
		}
		return out
	}
	for k, c := range []struct {
		l    []api.Choice
		want []api.State
		e    api.Errno
	}{
		{nil, []api.State{state(0, 5, 6)}, api.OK},
		{choices(0, 1), []api.State{state(0, 5, 6), state(1, 0, 6), state(1, 1, 6)}, api.OK},
		{choices(1), []api.State{state(0, 5, 6)}, api.ErrArg},
		{choices(0, 2, 1), []api.State{state(0, 5, 6), state(1, 0, 6)}, api.ErrStop},
		{choices(0, 1, 1, 1, 2, 3, 0), []api.State{state(0, 5, 6), state(1, 0, 6), state(1, 1, 6), state(1, 2, 6), state(1, 3, 6), state(2, 3, 6), state(0, 3, 6), state(1, 0, 6)}, api.OK},
		{choices(0, 1, 1, 1, 1, 2, 3, 0), []api.State{state(0, 5, 6), state(1, 0, 6), state(1, 1, 6), state(1, 2, 6), state(1, 3, 6), state(1, 4, 6), state(2, 4, 6)}, api.ErrFault},
	} {
		got, e := run.Run(count(), []int{5, 6}, c.l)
		if e != c.e || !slices.EqualFunc(got, c.want, run.Same) {
			t.Errorf("%d: %v, %d, want %v, %d", k, got, e, c.want, c.e)
		}
	}
	for k, c := range []struct {
		p    api.Prog
		vals []int
		e    api.Errno
	}{{api.Prog{}, nil, api.ErrProg}, {count(), nil, api.ErrArg}, {count(), []int{1}, api.ErrArg}, {count(), []int{1, 2, 3}, api.ErrArg}, {count(), []int{1, top + 1}, api.ErrArg}} {
		if l, e := run.Run(c.p, c.vals, choices(9)); e != c.e || len(l) != 0 {
			t.Errorf("wrong %d: %v, %d", k, l, e)
		}
	}
}

// Runs of chance: each state is what Step tells of the one ahead, and a state of the program at a point that is come to.
func TestChance(t *testing.T) {
	r := rand.New(rand.NewSource(1))
	errors := map[api.Errno]int{}
	for range 3000 {
		p := program()
		for range 1 + r.Intn(8) {
			s := api.Stmt{Kind: 1 + r.Intn(5), X: r.Intn(3), Y: r.Intn(3), C: r.Intn(9) - 4}
			if s.Kind == api.StAny {
				s.D, s.Y = s.C+r.Intn(4), 0
			}
			if s.Kind == api.StSkip {
				s = api.Stmt{Kind: api.StSkip}
			}
			if prog.Right(s, 2) {
				p.Edges = append(p.Edges, api.Edge{From: r.Intn(3), To: r.Intn(3), Stmt: s})
			}
		}
		var l []api.Choice
		for range r.Intn(8) {
			l = append(l, api.Choice{Edge: r.Intn(9), V: r.Intn(9) - 4})
		}
		vals := []int{r.Intn(9) - 4, r.Intn(9) - 4}
		states, e := run.Run(p, vals, l)
		errors[e]++
		if len(states) == 0 || !run.Same(states[0], state(0, vals...)) {
			t.Fatal("the first state:", states)
		}
		for i, s := range states {
			if !run.Right(p, s) || !slices.Contains(prog.Reach(p), s.Point) {
				t.Fatal("no state:", s)
			}
			if i == len(l) {
				if e != api.OK {
					t.Fatal("an error behind all:", e)
				}
				break
			}
			next, e2 := run.Step(p, s, l[i])
			if i+1 == len(states) && (e2 != e || e == api.OK) || i+1 < len(states) && (e2 != api.OK || !run.Same(next, states[i+1])) {
				t.Fatal("not as Step:", states, e, next, e2)
			}
		}
	}
	for _, e := range []api.Errno{api.OK, api.ErrArg, api.ErrStop, api.ErrFault} {
		if errors[e] < 20 {
			t.Error("few", e, errors)
		}
	}
}

func TestSame(t *testing.T) {
	for k, c := range []struct {
		a, b api.State
		want bool
	}{
		{state(1, 2, 3), state(1, 2, 3), true},
		{state(1), api.State{Point: 1, Vals: []int{}}, true},
		{state(1, 2, 3), state(2, 2, 3), false},
		{state(1, 2, 3), state(1, 3, 2), false},
		{state(1, 2, 3), state(1, 2), false},
		{state(-5, top+1), state(-5, top+1), true},
	} {
		if run.Same(c.a, c.b) != c.want || run.Same(c.b, c.a) != c.want {
			t.Errorf("%d: Same", k)
		}
	}
}

func TestShares(t *testing.T) {
	vals := []int{5, 6, 77}
	states, _ := run.Run(count(), vals[:2], []api.Choice{{Edge: 0}, {Edge: 1}})
	for i := range states {
		states[i].Vals = append(states[i].Vals, 9)
		states[i].Vals[0] = -i
	}
	if !slices.Equal(vals, []int{5, 6, 77}) || states[1].Vals[0] != -1 || states[2].Vals[0] != -2 {
		t.Error("shared:", vals, states)
	}
	s := state(0, 1, 2)
	next, _ := run.Step(program(api.Stmt{Kind: api.StSkip}), s, api.Choice{})
	next.Vals[0] = 50
	if s.Vals[0] != 1 {
		t.Error("shared:", s)
	}
}
