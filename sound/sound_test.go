package sound_test

import (
	"math/rand"
	"slices"
	"testing"

	"warrantor/api"
	"warrantor/dbm"
	"warrantor/fix"
	"warrantor/order"
	"warrantor/post"
	"warrantor/prog"
	"warrantor/run"
	"warrantor/sound"
	"warrantor/zone"
)

const top = api.MaxVal

func edge(from, to int, s api.Stmt) api.Edge { return api.Edge{From: from, To: to, Stmt: s} }

func program(points int, edges ...api.Edge) api.Prog {
	return api.Prog{Name: "p", Vars: []string{"x", "y"}, Spots: slices.Repeat([]api.Spot{{Func: "f", File: "a", Line: 1}}, points), Edges: edges}
}

func box(l ...int) api.Zone {
	var in []api.Itv
	for i := 0; i < len(l); i += 2 {
		in = append(in, api.Itv{Lo: l[i], Hi: l[i+1]})
	}
	z, _ := zone.Box(in)
	return z
}

var (
	skip = api.Stmt{Kind: api.StSkip}
	inc  = api.Stmt{Kind: api.StLet, X: 1, Y: 1, C: 1}
)

func TestBreaks(t *testing.T) {
	p := program(3, edge(0, 0, inc), edge(0, 1, skip), edge(2, 1, skip), edge(1, 0, api.Stmt{Kind: api.StLimit, X: 1, C: 3}))
	none := box(1, 0, 0, 0)
	for k, c := range []struct {
		first api.Zone
		l     []api.Zone
		want  []int
	}{
		{box(0, 3, 0, 0), []api.Zone{box(0, 3, 0, 0), box(0, 3, 0, 0), none}, []int{0}},
		{box(0, 3, 0, 0), []api.Zone{box(0, top, 0, 0), box(0, top, 0, 0), none}, nil},
		{box(-1, 3, 0, 0), []api.Zone{box(0, top, 0, 0), box(0, top, 0, 0), none}, []int{-1}},
		{box(0, 3, 0, 0), []api.Zone{none, none, none}, []int{-1}},
		{none, []api.Zone{none, none, none}, nil},
		{none, []api.Zone{none, none, box(0, 0, 0, 0)}, []int{2}},
		{none, []api.Zone{none, box(0, 9, 0, 0), box(0, 0, 0, 0)}, []int{3}},
		{box(0, 0, 0, 0), []api.Zone{box(0, 3, 0, 0), none, box(0, 0, 0, 0)}, []int{0, 1, 2}},
		{box(5, 6, 0, 1), []api.Zone{box(0, 3, 0, 0), box(0, 1, 1, 1), box(0, 0, 0, 0)}, []int{-1, 0, 1, 2, 3}},
	} {
		got, e := sound.Breaks(p, c.first, c.l)
		if e != api.OK || !slices.Equal(got, c.want) {
			t.Errorf("%d: %v, %d, want %v", k, got, e, c.want)
		}
		want := api.ErrSound
		if len(c.want) == 0 {
			want = api.OK
		}
		if e := sound.Check(p, c.first, c.l); e != want {
			t.Errorf("%d: Check tells %d", k, e)
		}
	}
	single := program(1, edge(0, 0, inc))
	if got, _ := sound.Breaks(single, box(0, 0, 0, 0), []api.Zone{box(0, 3, 0, 0)}); !slices.Equal(got, []int{0}) {
		t.Error("the example:", got)
	}
}

func TestWrong(t *testing.T) {
	p := program(2, edge(0, 1, skip))
	good, bad := box(0, 3, 0, 0), api.Zone{Vars: 2, M: []int{3}}
	for k, c := range []struct {
		p     api.Prog
		first api.Zone
		l     []api.Zone
		e     api.Errno
	}{
		{api.Prog{}, bad, nil, api.ErrProg},
		{p, bad, nil, api.ErrInit},
		{p, box(0, 1), nil, api.ErrInit},
		{p, good, nil, api.ErrZone},
		{p, good, []api.Zone{good}, api.ErrZone},
		{p, good, []api.Zone{good, good, good}, api.ErrZone},
		{p, good, []api.Zone{good, bad}, api.ErrZone},
		{p, good, []api.Zone{good, box(0, 3)}, api.ErrZone},
		{p, good, []api.Zone{good, good}, api.OK},
	} {
		got, e := sound.Breaks(c.p, c.first, c.l)
		if f := sound.Check(c.p, c.first, c.l); e != c.e || f != c.e || len(got) != 0 {
			t.Errorf("%d: %v, %d, %d, want %d", k, got, e, f, c.e)
		}
	}
}

func TestHas(t *testing.T) {
	p := program(2, edge(0, 1, skip))
	l := []api.Zone{box(0, 3, 0, 0), box(1, 0, 0, 0)}
	for k, c := range []struct {
		p    api.Prog
		l    []api.Zone
		s    api.State
		want bool
	}{
		{p, l, api.State{Point: 0, Vals: []int{3, 0}}, true},
		{p, l, api.State{Point: 0, Vals: []int{4, 0}}, false},
		{p, l, api.State{Point: 1, Vals: []int{3, 0}}, false},
		{p, l, api.State{Point: 2, Vals: []int{3, 0}}, false},
		{p, l, api.State{Point: -1, Vals: []int{3, 0}}, false},
		{p, l, api.State{Point: 0, Vals: []int{3}}, false},
		{p, l, api.State{Point: 0, Vals: []int{3, 0, 0}}, false},
		{p, l[:1], api.State{Point: 0, Vals: []int{3, 0}}, false},
		{p, []api.Zone{l[0], {Vars: 2, M: []int{1}}}, api.State{Point: 0, Vals: []int{3, 0}}, false},
		{p, []api.Zone{l[0], box(0, 0)}, api.State{Point: 0, Vals: []int{3, 0}}, false},
		{p, nil, api.State{Point: 0, Vals: []int{3, 0}}, false},
		{api.Prog{}, l, api.State{Point: 0, Vals: []int{3, 0}}, false},
	} {
		if sound.Has(c.p, c.l, c.s) != c.want {
			t.Errorf("%d: Has is %v", k, !c.want)
		}
	}
}

func statement(r *rand.Rand) api.Stmt {
	for {
		s := api.Stmt{Kind: 1 + r.Intn(5), X: r.Intn(3), Y: r.Intn(3), C: r.Intn(9) - 3}
		switch s.Kind {
		case api.StSkip:
			s = skip
		case api.StAny:
			s.Y, s.D = 0, s.C+r.Intn(5)
		}
		if prog.Right(s, 2) {
			return s
		}
	}
}

func chance(r *rand.Rand) api.Prog {
	n := 1 + r.Intn(6)
	p := program(n)
	for range r.Intn(3 * n) {
		p.Edges = append(p.Edges, edge(r.Intn(n), r.Intn(n), statement(r)))
	}
	return p
}

// breaks asks of each edge alone.
func breaks(p api.Prog, first api.Zone, l []api.Zone) []int {
	var out []int
	if in, _ := zone.Leq(first, l[0]); !in {
		out = append(out, -1)
	}
	for i, e := range p.Edges {
		z, _ := post.Post(l[e.From], e.Stmt)
		if in, _ := zone.Leq(z, l[e.To]); !in {
			out = append(out, i)
		}
	}
	return out
}

// What is solved holds, and each state of a run is in it; what is not as wide as it breaks, or holds by itself; meets of what holds hold.
func TestHolds(t *testing.T) {
	r := rand.New(rand.NewSource(1))
	states, broken, meets := 0, 0, 0
	for range 1500 {
		p := chance(r)
		first := box(0, r.Intn(5), -r.Intn(5), 2)
		w, _ := order.Of(p)
		solved, _, _ := fix.Solve(p, first, w, r.Intn(4), r.Intn(3))
		other, _, _ := fix.Solve(p, first, w, r.Intn(9), 0)
		if sound.Check(p, first, solved) != api.OK || sound.Check(p, first, other) != api.OK {
			t.Fatalf("what is solved does not hold: %v", p.Edges)
		}
		// One zone is made less, or more.
		l, at := slices.Clone(solved), r.Intn(len(solved))
		if r.Intn(2) == 0 {
			l[at], _ = zone.Limit(l[at], r.Intn(3), r.Intn(3), r.Intn(7)-1)
		} else {
			l[at], _ = zone.Join(l[at], box(r.Intn(9)-4, 5, -2, 2))
		}
		want := breaks(p, first, l)
		got, e := sound.Breaks(p, first, l)
		if e != api.OK || !slices.Equal(got, want) {
			t.Fatalf("Breaks(%v, %v, %v) = %v, want %v", p.Edges, first, l, got, want)
		}
		if len(want) > 0 {
			broken++
		} else {
			other = l
		}
		meet := make([]api.Zone, len(solved))
		for i := range meet {
			meet[i], _ = zone.Meet(solved[i], other[i])
		}
		if sound.Check(p, first, meet) != api.OK {
			t.Fatalf("meets do not hold: %v", p.Edges)
		}
		if !slices.EqualFunc(meet, solved, dbm.Same) {
			meets++
		}
		v, _ := dbm.Point(first, r.Intn(3))
		s := api.State{Vals: v}
		for range 20 {
			if !sound.Has(p, solved, s) || !sound.Has(p, meet, s) {
				t.Fatalf("%v is not in %v", s, solved)
			}
			states++
			c := api.Choice{Edge: r.Intn(len(p.Edges) + 1), V: r.Intn(12) - 4}
			if next, e := run.Step(p, s, c); e == api.OK {
				s = next
			}
		}
	}
	if states < 1000 || broken < 100 || meets < 10 {
		t.Error(states, broken, meets)
	}
}
