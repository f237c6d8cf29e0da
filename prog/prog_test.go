package prog_test

import (
	"math"
	"math/rand"
	"slices"
	"strconv"
	"strings"
	"testing"

	"warrantor/api"
	"warrantor/prog"
)

const top = api.MaxVal

func spot() api.Spot { return api.Spot{Func: "main", File: "a.w", Line: 1} }

// base is a program of three points, two variables, and an edge of each kind.
func base() api.Prog {
	return api.Prog{
		Name:  "p",
		Vars:  []string{"i", "n"},
		Spots: []api.Spot{spot(), spot(), spot()},
		Edges: []api.Edge{
			{From: 0, To: 1, Stmt: api.Stmt{Kind: api.StSkip}},
			{From: 1, To: 1, Stmt: api.Stmt{Kind: api.StLet, X: 1, Y: 1, C: 1}},
			{From: 1, To: 2, Stmt: api.Stmt{Kind: api.StAny, X: 2, C: 0, D: 9}},
			{From: 2, To: 0, Stmt: api.Stmt{Kind: api.StLimit, X: 1, Y: 2, C: -1}},
			{From: 2, To: 2, Stmt: api.Stmt{Kind: api.StCheck, Y: 1, C: 5}},
		},
	}
}

func TestCheck(t *testing.T) {
	long := strings.Repeat("n", 32)
	file := "f" + strings.Repeat("/", 63)
	vars := func(v ...string) func(*api.Prog) { return func(p *api.Prog) { p.Vars, p.Edges = v, nil } }
	spotIs := func(s api.Spot) func(*api.Prog) { return func(p *api.Prog) { p.Spots[2] = s } }
	edge := func(from, to int, s api.Stmt) func(*api.Prog) {
		return func(p *api.Prog) { p.Edges[4] = api.Edge{From: from, To: to, Stmt: s} }
	}
	skip := api.Stmt{Kind: api.StSkip}
	for k, c := range []struct {
		change func(*api.Prog)
		right  bool
	}{
		{func(*api.Prog) {}, true},
		{func(p *api.Prog) { p.Name = "" }, false},
		{func(p *api.Prog) { p.Name = long }, true},
		{func(p *api.Prog) { p.Name = long + "n" }, false},
		{func(p *api.Prog) { p.Name = "_A.z09" }, true},
		{func(p *api.Prog) { p.Name = "aZ" }, true},
		{func(p *api.Prog) { p.Name = "Z" }, true},
		{func(p *api.Prog) { p.Name = "z" }, true},
		{func(p *api.Prog) { p.Name = "a[" }, false},
		{func(p *api.Prog) { p.Name = "a@" }, false},
		{func(p *api.Prog) { p.Name = "a`" }, false},
		{func(p *api.Prog) { p.Name = "a{" }, false},
		{func(p *api.Prog) { p.Name = "a:" }, false},
		{func(p *api.Prog) { p.Name = "0a" }, false},
		{func(p *api.Prog) { p.Name = ".a" }, false},
		{func(p *api.Prog) { p.Name = "a-b" }, false},
		{func(p *api.Prog) { p.Name = "a/b" }, false},
		{func(p *api.Prog) { p.Name = "a b" }, false},
		{func(p *api.Prog) { p.Name = "aé" }, false},
		{func(p *api.Prog) { p.Name = "é" }, false},
		{func(p *api.Prog) { p.Name = "a\xff" }, false},
		{func(p *api.Prog) { p.Name = "skip" }, true},
		{vars(), true},
		{vars("a", "b", "c", "d", "e", "f", "g", "h"), true},
		{vars("a", "b", "c", "d", "e", "f", "g", "h", "i"), false},
		{vars("a", "b", "a"), false},
		{vars("a", ""), false},
		{vars(long), true},
		{vars(long + "n"), false},
		{vars("skip"), false},
		{vars("any"), false},
		{vars("limit"), false},
		{vars("check"), false},
		{vars("inf"), false},
		{vars("Skip", "anyx", "in", "infinity"), true},
		{vars("1"), false},
		{vars("a-b"), false},
		{func(p *api.Prog) { p.Spots, p.Edges = nil, nil }, false},
		{func(p *api.Prog) { p.Spots = slices.Repeat([]api.Spot{spot()}, 128) }, true},
		{func(p *api.Prog) { p.Spots = slices.Repeat([]api.Spot{spot()}, 129) }, false},
		{spotIs(api.Spot{Func: "f", File: file, Line: 1 << 20}), true},
		{spotIs(api.Spot{Func: "f", File: file + "a", Line: 1}), false},
		{spotIs(api.Spot{Func: "f", File: "_-a.b/C", Line: 1}), true},
		{spotIs(api.Spot{Func: "f", File: "/a", Line: 1}), false},
		{spotIs(api.Spot{Func: "f", File: "-a", Line: 1}), false},
		{spotIs(api.Spot{Func: "f", File: ".a", Line: 1}), false},
		{spotIs(api.Spot{Func: "f", File: "7a", Line: 1}), false},
		{spotIs(api.Spot{Func: "f", File: "", Line: 1}), false},
		{spotIs(api.Spot{Func: "f", File: "a b", Line: 1}), false},
		{spotIs(api.Spot{Func: "f", File: "a\\b", Line: 1}), false},
		{spotIs(api.Spot{Func: "f/g", File: "a", Line: 1}), false},
		{spotIs(api.Spot{Func: "", File: "a", Line: 1}), false},
		{spotIs(api.Spot{Func: long + "n", File: "a", Line: 1}), false},
		{spotIs(api.Spot{Func: "f", File: "a", Line: 0}), false},
		{spotIs(api.Spot{Func: "f", File: "a", Line: -1}), false},
		{spotIs(api.Spot{Func: "f", File: "a", Line: 1<<20 + 1}), false},
		{func(p *api.Prog) { p.Edges = nil }, true},
		{func(p *api.Prog) { p.Edges = slices.Repeat(p.Edges[:1], 256) }, true},
		{func(p *api.Prog) { p.Edges = slices.Repeat(p.Edges[:1], 257) }, false},
		{edge(2, 0, skip), true},
		{edge(3, 0, skip), false},
		{edge(0, 3, skip), false},
		{edge(-1, 0, skip), false},
		{edge(0, -1, skip), false},
		{edge(0, 0, api.Stmt{}), false},
		{edge(0, 0, api.Stmt{Kind: api.StLet, X: 3}), false},
	} {
		p := base()
		c.change(&p)
		want := api.ErrProg
		if c.right {
			want = api.OK
		}
		if e := prog.Check(p); e != want {
			t.Errorf("%d: Check tells %d, want %d", k, e, want)
		}
		if !c.right && (len(prog.Out(p, 0)) != 0 || len(prog.Into(p, 0)) != 0 || len(prog.Reach(p)) != 0) {
			t.Errorf("%d: what is no program has edges", k)
		}
	}
}

// right tells what a statement of n variables must be, field by field.
func right(s api.Stmt, n int) bool {
	in := func(x, lo, hi int) bool { return x >= lo && x <= hi }
	value := func(x int) bool { return in(x, -top, top) }
	if !in(n, 0, 8) {
		return false
	}
	switch s.Kind {
	case api.StSkip:
		return s == api.Stmt{Kind: api.StSkip}
	case api.StLet:
		return in(s.X, 1, n) && in(s.Y, 0, n) && value(s.C) && s.D == 0
	case api.StAny:
		return in(s.X, 1, n) && s.Y == 0 && value(s.C) && value(s.D) && s.C <= s.D
	case api.StLimit, api.StCheck:
		return in(s.X, 0, n) && in(s.Y, 0, n) && s.X != s.Y && value(s.C) && s.D == 0
	}
	return false
}

func TestRight(t *testing.T) {
	numbers := []int{math.MinInt, -top - 1, -top, -1, 0, 1, top, top + 1, math.MaxInt}
	rights := map[int]int{}
	for _, n := range []int{-1, 0, 1, 2, 8, 9, math.MaxInt, math.MinInt} {
		for kind := -1; kind <= 7; kind++ {
			for _, x := range []int{-1, 0, 1, 2, 3, 8, 9, math.MaxInt} {
				for _, y := range []int{-1, 0, 1, 2, 3, 8, 9, math.MinInt} {
					for _, c := range numbers {
						for _, d := range numbers {
							s := api.Stmt{Kind: kind, X: x, Y: y, C: c, D: d}
							want := right(s, n)
							if prog.Right(s, n) != want {
								t.Fatalf("Right(%v, %d) = %v", s, n, !want)
							}
							if want {
								rights[kind]++
							}
						}
					}
				}
			}
		}
	}
	if len(rights) != 5 {
		t.Error(rights)
	}
}

func TestOutIntoReach(t *testing.T) {
	p := base()
	for _, c := range []struct {
		point     int
		out, into []int
	}{{0, []int{0}, []int{3}}, {1, []int{1, 2}, []int{0, 1}}, {2, []int{3, 4}, []int{2, 4}}, {3, nil, nil}, {-1, nil, nil}, {math.MaxInt, nil, nil}} {
		if got := prog.Out(p, c.point); !slices.Equal(got, c.out) {
			t.Errorf("Out(%d) = %v", c.point, got)
		}
		if got := prog.Into(p, c.point); !slices.Equal(got, c.into) {
			t.Errorf("Into(%d) = %v", c.point, got)
		}
	}
	edges := func(n int, l ...int) api.Prog {
		p := api.Prog{Name: "p", Spots: slices.Repeat([]api.Spot{spot()}, n)}
		for i := 0; i < len(l); i += 2 {
			p.Edges = append(p.Edges, api.Edge{From: l[i], To: l[i+1], Stmt: api.Stmt{Kind: api.StSkip}})
		}
		return p
	}
	for k, c := range []struct {
		p    api.Prog
		want []int
	}{
		{base(), []int{0, 1, 2}},
		{edges(1), []int{0}},
		{edges(3), []int{0}},
		{edges(3, 1, 2, 2, 0), []int{0}},
		{edges(5, 0, 4, 4, 2, 3, 1, 2, 0), []int{0, 2, 4}},
		{edges(4, 3, 2, 2, 1, 0, 3), []int{0, 1, 2, 3}},
	} {
		if got := prog.Reach(c.p); !slices.Equal(got, c.want) {
			t.Errorf("%d: Reach = %v, want %v", k, got, c.want)
		}
	}
	r := rand.New(rand.NewSource(1))
	for range 200 {
		n := 1 + r.Intn(12)
		var l []int
		for range r.Intn(14) {
			l = append(l, r.Intn(n), r.Intn(n))
		}
		p := edges(n, l...)
		in := map[int]bool{0: true}
		for range n {
			for i := 0; i < len(l); i += 2 {
				in[l[i+1]] = in[l[i+1]] || in[l[i]]
			}
		}
		var want []int
		for i := range n {
			if in[i] {
				want = append(want, i)
			}
		}
		if got := prog.Reach(p); !slices.Equal(got, want) {
			t.Fatalf("Reach of %v = %v, want %v", l, got, want)
		}
	}
}

var texts = []struct {
	s    api.Stmt
	text string
}{
	{api.Stmt{Kind: api.StSkip}, "skip"},
	{api.Stmt{Kind: api.StLet, X: 1}, "i := 0"},
	{api.Stmt{Kind: api.StLet, X: 1, C: -7}, "i := -7"},
	{api.Stmt{Kind: api.StLet, X: 2, C: top}, "n := inf"},
	{api.Stmt{Kind: api.StLet, X: 2, C: -top}, "n := -inf"},
	{api.Stmt{Kind: api.StLet, X: 1, Y: 2}, "i := n"},
	{api.Stmt{Kind: api.StLet, X: 1, Y: 1}, "i := i"},
	{api.Stmt{Kind: api.StLet, X: 1, Y: 1, C: 1}, "i := i + 1"},
	{api.Stmt{Kind: api.StLet, X: 1, Y: 2, C: -12}, "i := n - 12"},
	{api.Stmt{Kind: api.StLet, X: 1, Y: 2, C: top}, "i := n + inf"},
	{api.Stmt{Kind: api.StLet, X: 1, Y: 2, C: -top}, "i := n - inf"},
	{api.Stmt{Kind: api.StLet, X: 3, Y: 4, C: 1}, "info := any.thing + 1"},
	{api.Stmt{Kind: api.StLet, X: 3, Y: 3}, "info := info"},
	{api.Stmt{Kind: api.StLet, X: 4, Y: 5}, "any.thing := inf.x"},
	{api.Stmt{Kind: api.StAny, X: 2, C: 0, D: 9}, "n := any [0, 9]"},
	{api.Stmt{Kind: api.StAny, X: 2, C: -top, D: top}, "n := any [-inf, inf]"},
	{api.Stmt{Kind: api.StAny, X: 2, C: 5, D: 5}, "n := any [5, 5]"},
	{api.Stmt{Kind: api.StLimit, X: 1, Y: 2, C: -1}, "limit i - n <= -1"},
	{api.Stmt{Kind: api.StLimit, X: 1, C: top}, "limit i <= inf"},
	{api.Stmt{Kind: api.StLimit, Y: 1, C: -top}, "limit -i <= -inf"},
	{api.Stmt{Kind: api.StCheck, X: 1, Y: 2, C: -1}, "check i - n <= -1"},
	{api.Stmt{Kind: api.StCheck, X: 2, C: 3}, "check n <= 3"},
	{api.Stmt{Kind: api.StCheck, Y: 2, C: 0}, "check -n <= 0"},
	{api.Stmt{Kind: api.StCheck, X: 3, Y: 4, C: 0}, "check info - any.thing <= 0"},
}

var vars = []string{"i", "n", "info", "any.thing", "inf.x"}

func TestShowParse(t *testing.T) {
	for _, c := range texts {
		if s, e := prog.Show(vars, c.s); s != c.text || e != api.OK {
			t.Errorf("Show(%v) = %q, %d", c.s, s, e)
		}
		if s, e := prog.Parse(vars, c.text); s != c.s || e != api.OK {
			t.Errorf("Parse(%q) = %v, %d", c.text, s, e)
		}
		// Cut off, or with something more, it is another text.
		for cut := range c.text {
			s, e := prog.Parse(vars, c.text[:cut])
			back, _ := prog.Show(vars, s)
			if e == api.OK && back != c.text[:cut] || e != api.OK && (e != api.ErrStmt || s != api.Stmt{}) {
				t.Errorf("Parse(%q) = %v, %d", c.text[:cut], s, e)
			}
		}
		for _, more := range []string{" ", "\n", "]", " <= 1"} {
			if s, e := prog.Parse(vars, c.text+more); e != api.ErrStmt || s != (api.Stmt{}) {
				t.Errorf("Parse(%q) = %v, %d", c.text+more, s, e)
			}
		}
	}
	long := []string{strings.Repeat("a", 32), strings.Repeat("b", 32)}
	for _, s := range []api.Stmt{{Kind: api.StLet, X: 1, Y: 2, C: 1 - top}, {Kind: api.StAny, X: 1, C: 1 - top, D: top - 1}, {Kind: api.StCheck, X: 1, Y: 2, C: 1 - top}} {
		text, _ := prog.Show(long, s)
		if got, e := prog.Parse(long, text); got != s || e != api.OK {
			t.Errorf("%q is parsed as %v", text, got)
		}
	}
}

func TestShowParseWrong(t *testing.T) {
	for _, bad := range [][]string{{"a", "a"}, {"inf"}, {""}, {"1"}, {"a", "b", "c", "d", "e", "f", "g", "h", "i"}} {
		if s, e := prog.Show(bad, api.Stmt{}); s != "" || e != api.ErrProg {
			t.Errorf("Show(%q) = %q, %d", bad, s, e)
		}
		if s, e := prog.Parse(bad, "?"); s != (api.Stmt{}) || e != api.ErrProg {
			t.Errorf("Parse(%q) = %v, %d", bad, s, e)
		}
	}
	for _, s := range []api.Stmt{{}, {Kind: 6}, {Kind: api.StSkip, X: 1}, {Kind: api.StLet, X: 6}, {Kind: api.StLet}, {Kind: api.StAny, X: 1, C: 1}, {Kind: api.StCheck, C: 1}, {Kind: api.StCheck, X: 1, Y: 1}, {Kind: api.StLimit, X: 1, C: top + 1}} {
		if text, e := prog.Show(vars, s); text != "" || e != api.ErrStmt {
			t.Errorf("Show(%v) = %q, %d", s, text, e)
		}
	}
	for _, s := range []string{
		"", " ", "skip ", " skip", "Skip", "skipx", "i", "i :=", "i := ", "i:=0", "i :=0", "i = 0", "x := 0", "i := x", "i := 00", "i := -0", "i := +1", "i := 1099511627776", "i := 1.5",
		"i := i + 0", "i := i - 0", "i := i + -1", "i := i - -1", "i := i+1", "i := i +1", "i := i  + 1", "i := i + n", "i := 1 + i", "i := -n", "i := i + 1 + 1", "i := n - -inf",
		"i := any", "i := any [0, 9", "i := any[0, 9]", "i := any [9, 0]", "i := any [0,9]", "i := any [0]", "i := any [0, 9]]", "i := any [0, 9, 9]", "0 := any [0, 9]",
		"limit", "limit ", "limit i", "limit i <= ", "limit i<=1", "limit i < 1", "limit i >= 1", "limit <= 1", "limit - <= 1", "limit i - i <= 1", "limit -i - n <= 1", "limit -i <= 1 ", "limit 0 - i <= 1", "limit i - 0 <= 1", "limit 0 <= 1", "limit i- n <= 1", "limit i - n <= n", "limit  i <= 1", "limit - i <= 1", "limit x <= 1", "limits i <= 1", "checki <= 1", "check i <= 1.", "check i <= --1", "check i <= 01", "CHECK i <= 1",
		"skip := 1", "any := 1", "limit := 1", "inf := 1", "i := skip", "i := limit", "i :=\t0", "i := \xff", "\xff", "i := ١", strings.Repeat("i", 300), "i := " + strings.Repeat("1", 1<<16),
	} {
		if st, e := prog.Parse(vars, s); st != (api.Stmt{}) || e != api.ErrStmt {
			t.Errorf("Parse(%q) = %v, %d", s, st, e)
		}
	}
	if _, e := prog.Parse(nil, "skip"); e != api.OK {
		t.Error("skip without variables:", e)
	}
	if _, e := prog.Parse(nil, "i := 0"); e != api.ErrStmt {
		t.Error("a variable that is none:", e)
	}
}

// Whatever is parsed is shown as it was, and what is shown is parsed as it was.
func TestBothWays(t *testing.T) {
	r := rand.New(rand.NewSource(2))
	pieces := []string{"i", "n", "info", " := ", " + ", " - ", " <= ", "0", "1", "12", "-", "inf", "limit ", "check ", "skip", "any [", ", ", "]", " "}
	right := 0
	for range 100000 {
		s := ""
		for range 1 + r.Intn(6) {
			s += pieces[r.Intn(len(pieces))]
		}
		st, e := prog.Parse(vars, s)
		if e != api.OK {
			continue
		}
		right++
		if back, _ := prog.Show(vars, st); back != s || !prog.Right(st, len(vars)) {
			t.Fatalf("%q is parsed as %v, and shown as %q", s, st, back)
		}
	}
	if right < 500 {
		t.Error(right)
	}
	for range 20000 {
		number := func() int { return []int{0, 1, -1, top, -top, top - 1, 1 - top, r.Intn(2000) - 1000}[r.Intn(8)] }
		s := api.Stmt{Kind: 1 + r.Intn(5), X: r.Intn(6), Y: r.Intn(6), C: number(), D: number()}
		text, e := prog.Show(vars, s)
		if (e == api.OK) != prog.Right(s, 5) {
			t.Fatalf("Show(%v) = %q, %d", s, text, e)
		}
		if got, e2 := prog.Parse(vars, text); e == api.OK && (got != s || e2 != api.OK) {
			t.Fatalf("%v is shown as %q, and parsed as %v", s, text, got)
		}
	}
}

func TestSame(t *testing.T) {
	for k, change := range []func(*api.Prog){
		func(p *api.Prog) { p.Name = "q" },
		func(p *api.Prog) { p.Vars = []string{"i", "m"} },
		func(p *api.Prog) { p.Vars = p.Vars[:1] },
		func(p *api.Prog) { p.Spots[1].Line = 2 },
		func(p *api.Prog) { p.Spots[1].Func = "f" },
		func(p *api.Prog) { p.Spots[1].File = "f" },
		func(p *api.Prog) { p.Spots = p.Spots[:2] },
		func(p *api.Prog) { p.Edges = p.Edges[1:] },
		func(p *api.Prog) { p.Edges[0].From = 1 },
		func(p *api.Prog) { p.Edges[0].To = 2 },
		func(p *api.Prog) { p.Edges[0].Stmt.D = 2 },
		func(p *api.Prog) { p.Edges[0], p.Edges[1] = p.Edges[1], p.Edges[0] },
	} {
		p := base()
		change(&p)
		if prog.Same(p, base()) || prog.Same(base(), p) || !prog.Same(p, p) {
			t.Errorf("%d: Same", k)
		}
	}
	if !prog.Same(base(), base()) || !prog.Same(api.Prog{}, api.Prog{Vars: []string{}, Spots: []api.Spot{}, Edges: []api.Edge{}}) {
		t.Error("Same")
	}
}

func TestMany(t *testing.T) {
	p := api.Prog{Name: "p", Spots: slices.Repeat([]api.Spot{spot()}, 128)}
	for i := range 127 {
		p.Edges = append(p.Edges, api.Edge{From: 127 - i, To: 126 - i, Stmt: api.Stmt{Kind: api.StSkip}})
	}
	if got := prog.Reach(p); !slices.Equal(got, []int{0}) {
		t.Error("Reach:", got)
	}
	for i := range p.Edges {
		p.Edges[i].From, p.Edges[i].To = p.Edges[i].To, p.Edges[i].From
	}
	if got := prog.Reach(p); len(got) != 128 || got[127] != 127 {
		t.Error("Reach: " + strconv.Itoa(len(got)))
	}
}
