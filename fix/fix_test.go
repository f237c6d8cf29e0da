package fix_test

import (
	"math"
	"math/rand"
	"slices"
	"testing"

	"warrantor/api"
	"warrantor/dbm"
	"warrantor/fix"
	"warrantor/order"
	"warrantor/post"
	"warrantor/prog"
	"warrantor/wto"
	"warrantor/zone"
)

const top = api.MaxVal

func edge(from, to int, s api.Stmt) api.Edge { return api.Edge{From: from, To: to, Stmt: s} }

func program(points int, vars []string, edges ...api.Edge) api.Prog {
	return api.Prog{Name: "p", Vars: vars, Spots: slices.Repeat([]api.Spot{{Func: "f", File: "a", Line: 1}}, points), Edges: edges}
}

func box(l ...int) api.Zone {
	var in []api.Itv
	for i := 0; i < len(l); i += 2 {
		in = append(in, api.Itv{Lo: l[i], Hi: l[i+1]})
	}
	z, _ := zone.Box(in)
	return z
}

func all(n int) api.Zone {
	z, _ := dbm.All(n)
	return z
}

var (
	skip = api.Stmt{Kind: api.StSkip}
	zero = api.Stmt{Kind: api.StLet, X: 1}
	inc  = api.Stmt{Kind: api.StLet, X: 1, Y: 1, C: 1}
)

func atMost(c int) api.Stmt  { return api.Stmt{Kind: api.StLimit, X: 1, C: c} }
func atLeast(c int) api.Stmt { return api.Stmt{Kind: api.StLimit, Y: 1, C: -c} }

// loop counts i from 0 on, as long as it is below n.
func loop(n int) api.Prog {
	return program(5, []string{"i"}, edge(0, 1, zero), edge(1, 2, atMost(n-1)), edge(2, 1, inc), edge(1, 3, atLeast(n)))
}

// ladder leads on and back between each two points next to each other; what changes far away comes back step by step.
func ladder(n int) api.Prog {
	p := program(n, []string{"i"})
	for i := range n - 1 {
		p.Edges = append(p.Edges, edge(i, i+1, atMost(0)), edge(i+1, i, skip))
	}
	p.Edges = append(p.Edges, edge(n-1, n-2, api.Stmt{Kind: api.StAny, X: 1, C: 0, D: 5}))
	return p
}

// come is what comes to a point, all of it joined.
func come(p api.Prog, first api.Zone, l []api.Zone, point int) api.Zone {
	out := api.Zone{Vars: len(p.Vars)}
	if point == 0 {
		out = first
	}
	for _, e := range p.Edges {
		if e.To == point {
			z, _ := post.Post(l[e.From], e.Stmt)
			out, _ = zone.Join(out, z)
		}
	}
	return out
}

// solve solves as the document says it, step by step.
func solve(p api.Prog, first api.Zone, w api.Wto, delay, narrow int) ([]api.Zone, int) {
	l := make([]api.Zone, len(p.Spots))
	for i := range l {
		l[i].Vars = len(p.Vars)
	}
	round := 0
	for changed := true; changed; {
		round++
		changed = false
		for at, point := range w.Points {
			z := come(p, first, l, point)
			if w.Spans[at] > 0 {
				old := l[point]
				join, _ := zone.Join(old, z)
				inside, _ := zone.Leq(z, old)
				switch {
				case inside || round <= delay:
					z = join
				case round > 16:
					z = all(len(p.Vars))
				default:
					z, _ = zone.Widen(old, join)
				}
			}
			if !dbm.Same(z, l[point]) {
				changed = true
			}
			l[point] = z
		}
	}
	for range narrow {
		for _, point := range w.Points {
			l[point] = come(p, first, l, point)
		}
	}
	return l, round
}

func TestCome(t *testing.T) {
	p := program(3, []string{"i"}, edge(0, 1, inc), edge(2, 1, atMost(7)), edge(1, 1, zero), edge(2, 0, skip))
	l := []api.Zone{box(1, 2), box(20, 30), box(5, 9)}
	for k, c := range []struct {
		first api.Zone
		point int
		want  api.Zone
	}{
		{box(50, 60), 0, box(5, 60)},
		{box(1, 0), 0, box(5, 9)},
		{box(50, 60), 1, box(0, 7)},
		{box(50, 60), 2, box(1, 0)},
	} {
		if z, e := fix.Come(p, c.first, l, c.point); e != api.OK || !dbm.Same(z, c.want) {
			t.Errorf("%d: %v, %d, want %v", k, z, e, c.want)
		}
	}
	bad := api.Zone{Vars: 1, M: []int{1}}
	for k, c := range []struct {
		p     api.Prog
		first api.Zone
		l     []api.Zone
		point int
		e     api.Errno
	}{
		{api.Prog{}, bad, nil, 9, api.ErrProg},
		{p, bad, nil, 9, api.ErrInit},
		{p, all(2), nil, 9, api.ErrInit},
		{p, all(0), l, 0, api.ErrInit},
		{p, all(1), nil, 9, api.ErrZone},
		{p, all(1), l[:2], 9, api.ErrZone},
		{p, all(1), append(slices.Clone(l), all(1)), 9, api.ErrZone},
		{p, all(1), []api.Zone{all(1), bad, all(1)}, 9, api.ErrZone},
		{p, all(1), []api.Zone{all(1), all(1), all(2)}, 9, api.ErrZone},
		{p, all(1), l, 3, api.ErrArg},
		{p, all(1), l, -1, api.ErrArg},
		{p, all(1), l, math.MaxInt, api.ErrArg},
	} {
		if z, e := fix.Come(c.p, c.first, c.l, c.point); e != c.e || z.Vars != 0 || len(z.M) != 0 {
			t.Errorf("wrong %d: %v, %d, want %d", k, z, e, c.e)
		}
	}
}

func TestLoop(t *testing.T) {
	p := loop(10)
	l, e := fix.Best(p, all(1))
	want := []api.Zone{all(1), box(0, 10), box(0, 9), box(10, 10), box(1, 0)}
	if e != api.OK || !slices.EqualFunc(l, want, dbm.Same) {
		t.Errorf("Best: %v, %d", l, e)
	}
	w, _ := order.Of(p)
	for _, c := range []struct {
		delay, narrow, rounds int
		head                  api.Zone
	}{
		{0, 0, 3, box(0, top)},  // at once as far as can be
		{0, 1, 3, box(0, 10)},   //
		{2, 0, 4, box(0, top)},  // one round more without
		{8, 0, 10, box(0, top)}, //
		{8, 4, 10, box(0, 10)},  //
	} {
		l, rounds, e := fix.Solve(p, all(1), w, c.delay, c.narrow)
		if e != api.OK || rounds != c.rounds || !dbm.Same(l[1], c.head) {
			t.Errorf("%d, %d: %v after %d rounds, %d", c.delay, c.narrow, l[1], rounds, e)
		}
	}
	l, rounds, e := fix.Solve(loop(5), all(1), w, 8, 0)
	if e != api.OK || rounds != 7 || !dbm.Same(l[1], box(0, 5)) {
		t.Errorf("without widening: %v, %d, %d", l[1], rounds, e)
	}
}

// Where heads go on changing, they are let go behind MaxRounds.
func TestRounds(t *testing.T) {
	for _, n := range []int{3, 10, 14, 17, 18, 30, 60} {
		p := ladder(n)
		w, _ := order.Of(p)
		for _, delay := range []int{0, 2, 8} {
			want, wantRounds := solve(p, box(0, 0), w, delay, 0)
			l, rounds, e := fix.Solve(p, box(0, 0), w, delay, 0)
			if e != api.OK || rounds != wantRounds || !slices.EqualFunc(l, want, dbm.Same) {
				t.Errorf("%d points: %d rounds, want %d", n, rounds, wantRounds)
			}
			if rounds > api.MaxRounds+len(w.Points)+1 {
				t.Errorf("%d points: %d rounds", n, rounds)
			}
			if free := dbm.Same(l[0], all(1)); free != (n > 16) {
				t.Errorf("%d points: let go %v", n, free)
			}
		}
	}
}

func statement(r *rand.Rand) api.Stmt {
	for {
		s := api.Stmt{Kind: 1 + r.Intn(5), X: r.Intn(3), Y: r.Intn(3), C: r.Intn(15) - 7}
		switch s.Kind {
		case api.StSkip:
			s = api.Stmt{Kind: api.StSkip}
		case api.StAny:
			s.Y, s.D = 0, s.C+r.Intn(5)
		case api.StLet:
			if r.Intn(2) == 0 {
				s.C = r.Intn(3) - 1
			}
		}
		if prog.Right(s, 2) {
			return s
		}
	}
}

func chance(r *rand.Rand) (api.Prog, api.Zone) {
	n := 1 + r.Intn(7)
	p := program(n, []string{"x", "y"})
	for i := range n + r.Intn(2*n) {
		e := edge(r.Intn(n), r.Intn(n), statement(r))
		if i < n-1 && r.Intn(4) > 0 {
			e.From, e.To = i, i+1
		}
		p.Edges = append(p.Edges, e)
	}
	first := []api.Zone{all(2), box(0, 3, -1, 1), box(0, top, -top, 0), box(1, 0, 0, 0)}[r.Intn(4)]
	first, _ = zone.Limit(first, 1, 2, r.Intn(9)-2)
	return p, first
}

func TestSolveChance(t *testing.T) {
	r := rand.New(rand.NewSource(1))
	for range 1500 {
		p, first := chance(r)
		w, _ := order.Of(p)
		delay, narrow := r.Intn(9), r.Intn(5)
		want, wantRounds := solve(p, first, w, delay, narrow)
		l, rounds, e := fix.Solve(p, first, w, delay, narrow)
		if e != api.OK || rounds != wantRounds || !slices.EqualFunc(l, want, dbm.Same) {
			t.Fatalf("Solve(%v, %v, %v, %d, %d) = %v, %d, %d, want %v, %d", p.Edges, first, w, delay, narrow, l, rounds, e, want, wantRounds)
		}
		if rounds > api.MaxRounds+len(w.Points)+1 {
			t.Fatalf("%d rounds", rounds)
		}
		for point := range p.Spots {
			z, e := fix.Come(p, first, l, point)
			in, _ := zone.Leq(z, l[point])
			if e != api.OK || !in {
				t.Fatalf("%v comes to %d, which has %v", z, point, l[point])
			}
			if !slices.Contains(w.Points, point) && !dbm.Empty(l[point]) {
				t.Fatalf("nobody comes to %d, which has %v", point, l[point])
			}
		}
		best, e := fix.Best(p, first)
		want, _ = solve(p, first, w, 2, 2)
		if e != api.OK || !slices.EqualFunc(best, want, dbm.Same) {
			t.Fatalf("Best(%v, %v) = %v, %d, want %v", p.Edges, first, best, e, want)
		}
	}
}

// Another order that follows the program will do, too.
func TestOtherOrder(t *testing.T) {
	p := loop(10)
	w := api.Wto{Points: []int{0, 2, 1, 3}, Spans: []int{0, 2, 0, 0}}
	if e := order.Follows(p, w); e != api.OK {
		t.Fatal(e)
	}
	want, wantRounds := solve(p, all(1), w, 1, 1)
	l, rounds, e := fix.Solve(p, all(1), w, 1, 1)
	if e != api.OK || rounds != wantRounds || !slices.EqualFunc(l, want, dbm.Same) {
		t.Errorf("%v, %d, %d, want %v, %d", l, rounds, e, want, wantRounds)
	}
}

func TestWrong(t *testing.T) {
	p := loop(3)
	w, _ := order.Of(p)
	bad := api.Zone{Vars: 1, M: []int{1}}
	broken := api.Wto{Points: []int{0, 0}, Spans: []int{0, 0}}
	for k, c := range []struct {
		p             api.Prog
		first         api.Zone
		w             api.Wto
		delay, narrow int
		e             api.Errno
	}{
		{api.Prog{}, bad, broken, -1, -1, api.ErrProg},
		{p, bad, broken, -1, -1, api.ErrInit},
		{p, all(2), broken, -1, -1, api.ErrInit},
		{p, all(1), broken, -1, -1, api.ErrWto},
		{p, all(1), api.Wto{Points: make([]int, 129)}, -1, -1, api.ErrLong},
		{p, all(1), api.Wto{}, -1, -1, api.ErrOrder},
		{p, all(1), api.Wto{Points: w.Points, Spans: make([]int, len(w.Points))}, -1, -1, api.ErrOrder},
		{p, all(1), w, -1, 0, api.ErrArg},
		{p, all(1), w, 9, 0, api.ErrArg},
		{p, all(1), w, 0, -1, api.ErrArg},
		{p, all(1), w, 0, 5, api.ErrArg},
		{p, all(1), w, math.MaxInt, math.MaxInt, api.ErrArg},
	} {
		if l, rounds, e := fix.Solve(c.p, c.first, c.w, c.delay, c.narrow); e != c.e || rounds != 0 || len(l) != 0 {
			t.Errorf("%d: %v, %d, %d, want %d", k, l, rounds, e, c.e)
		}
	}
	if _, rounds, e := fix.Solve(p, all(1), w, 8, 4); e != api.OK || rounds == 0 {
		t.Error("the greatest numbers:", e)
	}
	deep := ladder(66)
	for k, c := range []struct {
		p     api.Prog
		first api.Zone
		e     api.Errno
	}{
		{api.Prog{}, bad, api.ErrProg},
		{deep, bad, api.ErrInit},
		{deep, all(2), api.ErrInit},
		{deep, all(1), api.ErrLong},
		{ladder(65), all(1), api.OK},
	} {
		if l, e := fix.Best(c.p, c.first); e != c.e || c.e != api.OK && len(l) != 0 {
			t.Errorf("Best %d: %d, want %d", k, e, c.e)
		}
	}
	if wto.Check(w) != api.OK {
		t.Error("the order is changed")
	}
}

// What was handed in stays as it was, whatever becomes of the answer.
func TestShares(t *testing.T) {
	p, first := loop(3), box(0, 5)
	w, _ := order.Of(p)
	m := slices.Clone(first.M)
	l, _, _ := fix.Solve(p, first, w, 2, 2)
	in := slices.Clone(l)
	z, _ := fix.Come(p, first, in, 0)
	for i := range l {
		for k := range l[i].M {
			l[i].M[k] = 77
		}
	}
	for k := range z.M {
		z.M[k] = 78
	}
	if !slices.Equal(first.M, m) || len(in) != 5 {
		t.Error("shared:", first)
	}
	again, _, _ := fix.Solve(p, first, w, 2, 2)
	if dbm.Check(again[0]) != api.OK {
		t.Error("shared:", again)
	}
}
