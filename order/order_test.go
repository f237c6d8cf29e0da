package order_test

import (
	"math/rand"
	"slices"
	"testing"

	"warrantor/api"
	"warrantor/order"
	"warrantor/prog"
	"warrantor/wto"
)

// program is one of n points, with edges of pairs of points.
func program(n int, l ...int) api.Prog {
	p := api.Prog{Name: "p", Spots: slices.Repeat([]api.Spot{{Func: "f", File: "a", Line: 1}}, n)}
	for i := 0; i+1 < len(l); i += 2 {
		p.Edges = append(p.Edges, api.Edge{From: l[i], To: l[i+1], Stmt: api.Stmt{Kind: api.StSkip}})
	}
	return p
}

func TestOf(t *testing.T) {
	for _, c := range []struct {
		p    api.Prog
		want string
	}{
		{program(1), "0"},
		{program(1, 0, 0), "(0)"},
		{program(3), "0"},
		{program(4, 0, 1, 1, 2, 2, 1, 1, 3), "0 (1 2) 3"},
		{program(4, 0, 2, 2, 1, 1, 3, 0, 3), "0 2 1 3"},
		{program(4, 0, 3, 0, 2, 0, 1), "0 1 2 3"},
		{program(4, 0, 3, 0, 2, 3, 1), "0 2 3 1"},
		{program(3, 0, 1, 1, 2, 2, 0), "(0 1 2)"},
		{program(3, 0, 1, 1, 2, 2, 0, 2, 1), "(0 (1 2))"},
		{program(3, 0, 1, 1, 2, 2, 0, 2, 2), "(0 1 (2))"},
		{program(4, 0, 3, 3, 1, 1, 2, 2, 3), "0 (3 1 2)"},                 // the head is where it is entered
		{program(4, 0, 3, 0, 2, 3, 1, 1, 2, 2, 3), "0 (2 3 1)"},           // the least one of those
		{program(5, 0, 1, 1, 2, 2, 1, 4, 2, 4, 4), "0 (1 2)"},             // nobody comes to 4
		{program(5, 0, 1, 1, 2, 2, 3, 3, 2, 3, 1, 1, 4), "0 (1 (2 3)) 4"}, // one in another one
		{program(6, 0, 1, 1, 2, 2, 1, 2, 3, 3, 4, 4, 3, 4, 5, 5, 1), "0 (1 2 (3 4) 5)"},
		{program(4, 0, 2, 2, 3, 3, 2, 0, 1, 1, 1), "0 (1) (2 3)"},
		{program(4, 0, 3, 3, 3, 0, 1, 1, 2), "0 1 2 (3)"},
		{program(2, 0, 1, 0, 1, 1, 0, 1, 0), "(0 1)"},
		{program(4, 0, 1, 1, 3, 3, 2, 2, 3, 3, 1, 2, 1), "0 (1 (3 2))"},
	} {
		w, e := order.Of(c.p)
		s, _ := wto.Show(w)
		if s != c.want || e != api.OK {
			t.Errorf("Of(%v) = %q, %d, want %q", c.p.Edges, s, e, c.want)
		}
		if e := order.Follows(c.p, w); e != api.OK {
			t.Errorf("%q does not follow: %d", s, e)
		}
	}
}

// slow tells the order of a set as the document does, by which points lead to which.
func slow(p api.Prog, set []int) api.Wto {
	var w api.Wto
	come := prog.Reach(p)
	edge := func(a, b int) bool {
		return slices.ContainsFunc(p.Edges, func(e api.Edge) bool { return e.From == a && e.To == b })
	}
	leads := map[[2]int]bool{}
	for _, a := range set {
		leads[[2]int{a, a}] = true
		for _, b := range set {
			leads[[2]int{a, b}] = leads[[2]int{a, b}] || edge(a, b)
		}
	}
	for _, k := range set {
		for _, a := range set {
			for _, b := range set {
				leads[[2]int{a, b}] = leads[[2]int{a, b}] || leads[[2]int{a, k}] && leads[[2]int{k, b}]
			}
		}
	}
	partOf := func(a int) []int {
		var l []int
		for _, b := range set {
			if leads[[2]int{a, b}] && leads[[2]int{b, a}] {
				l = append(l, b)
			}
		}
		return l
	}
	left := slices.Clone(set)
	for len(left) > 0 {
		for _, a := range left { // rising: the first one of a part is its least
			part := partOf(a)
			fromOther := func(b int) bool {
				return slices.ContainsFunc(left, func(c int) bool { return edge(c, b) && !slices.Contains(part, c) })
			}
			if part[0] != a || slices.ContainsFunc(part, fromOther) {
				continue
			}
			left = slices.DeleteFunc(left, func(b int) bool { return slices.Contains(part, b) })
			if len(part) == 1 && !edge(a, a) {
				w.Points, w.Spans = append(w.Points, a), append(w.Spans, 0)
				break
			}
			head := slices.IndexFunc(part, func(b int) bool {
				return b == 0 || slices.ContainsFunc(come, func(c int) bool { return edge(c, b) && !slices.Contains(part, c) })
			})
			h := part[head]
			in := slow(p, slices.DeleteFunc(slices.Clone(part), func(b int) bool { return b == h }))
			w.Points = append(append(w.Points, h), in.Points...)
			w.Spans = append(append(w.Spans, len(part)), in.Spans...)
			break
		}
	}
	return w
}

// follows tells whether an order follows a program, by places and spans.
func follows(p api.Prog, w api.Wto) (back []int, ok bool) {
	sorted := slices.Sorted(slices.Values(w.Points))
	if !slices.Equal(sorted, prog.Reach(p)) {
		return nil, false
	}
	for i, e := range p.Edges {
		from, to := slices.Index(w.Points, e.From), slices.Index(w.Points, e.To)
		switch {
		case from < 0 || from < to:
		case from < to+w.Spans[to]:
			back = append(back, i)
		default:
			return nil, false
		}
	}
	return back, true
}

func chance(r *rand.Rand, n, edges int) api.Prog {
	var l []int
	for range edges {
		l = append(l, r.Intn(n), r.Intn(n))
	}
	return program(n, l...)
}

func TestChance(t *testing.T) {
	r := rand.New(rand.NewSource(1))
	for k := range 1500 {
		n := 1 + r.Intn(10)
		p := chance(r, n, r.Intn(3*n))
		if k%10 == 0 {
			p = chance(r, 40, 100)
		}
		w, e := order.Of(p)
		want := slow(p, prog.Reach(p))
		if e != api.OK || !wto.Same(w, want) {
			t.Fatalf("Of(%v) = %v, %d, want %v", p.Edges, w, e, want)
		}
		wantBack, _ := follows(p, w)
		back, e := order.Back(p, w)
		if e != api.OK || !slices.Equal(back, wantBack) {
			t.Fatalf("Back(%v, %v) = %v, %d, want %v", p.Edges, w, back, e, wantBack)
		}
		// Without those there is no way round.
		rest := p
		rest.Edges = nil
		for i, x := range p.Edges {
			if !slices.Contains(back, i) && slices.Contains(w.Points, x.From) {
				rest.Edges = append(rest.Edges, x)
			}
		}
		if round, e := order.Of(rest); e != api.OK || wto.Depth(round) > 1 || slices.Max(append(slices.Clone(round.Spans), 0)) > 0 {
			t.Fatalf("a way round in %v", rest.Edges)
		}
	}
}

// Other orders follow a program, too, or do not.
func TestFollows(t *testing.T) {
	r := rand.New(rand.NewSource(2))
	yes, no := 0, 0
	for range 5000 {
		n := 1 + r.Intn(5)
		p := chance(r, n, r.Intn(2*n))
		points := prog.Reach(p)
		if r.Intn(10) == 0 {
			points = append(points, n)
		}
		w := api.Wto{Points: points, Spans: make([]int, len(points))}
		r.Shuffle(len(points), func(i, j int) { points[i], points[j] = points[j], points[i] })
		for i := range w.Spans {
			if r.Intn(2) == 0 {
				w.Spans[i] = r.Intn(len(points) - i + 1)
			}
		}
		if wto.Check(w) != api.OK {
			continue
		}
		wantBack, ok := follows(p, w)
		want := api.OK
		if ok {
			yes++
		} else {
			no++
			want = api.ErrOrder
		}
		back, e := order.Back(p, w)
		if f := order.Follows(p, w); f != want || e != want || !slices.Equal(back, wantBack) {
			t.Fatalf("%v, %v: Follows %d, Back %v, %d, want %d, %v", p.Edges, w, f, back, e, want, wantBack)
		}
	}
	if yes < 100 || no < 100 {
		t.Error(yes, no)
	}
}

func TestWrong(t *testing.T) {
	bad, good := program(0), program(2, 0, 1)
	long := api.Wto{Points: make([]int, 129)}
	for k, c := range []struct {
		p api.Prog
		w api.Wto
		e api.Errno
	}{
		{bad, long, api.ErrProg},
		{bad, api.Wto{}, api.ErrProg},
		{good, long, api.ErrLong},
		{good, api.Wto{Points: []int{0, 1}, Spans: []int{0}}, api.ErrWto},
		{good, api.Wto{Points: []int{0, 0}, Spans: []int{0, 0}}, api.ErrWto},
		{good, api.Wto{}, api.ErrOrder},
		{good, api.Wto{Points: []int{0}, Spans: []int{0}}, api.ErrOrder},
		{good, api.Wto{Points: []int{1, 0}, Spans: []int{0, 0}}, api.ErrOrder},
		{good, api.Wto{Points: []int{1, 0}, Spans: []int{2, 0}}, api.OK},
		{good, api.Wto{Points: []int{0, 1}, Spans: []int{0, 1}}, api.OK},
		{good, api.Wto{Points: []int{0, 1, 2}, Spans: []int{0, 0, 0}}, api.ErrOrder},
		{program(2, 0, 0), api.Wto{Points: []int{0}, Spans: []int{0}}, api.ErrOrder},
		{program(2, 0, 0, 1, 0, 1, 1), api.Wto{Points: []int{0}, Spans: []int{1}}, api.OK},
	} {
		back, e := order.Back(c.p, c.w)
		if f := order.Follows(c.p, c.w); f != c.e || e != c.e || e != api.OK && len(back) != 0 {
			t.Errorf("%d: Follows %d, Back %v, %d, want %d", k, f, back, e, c.e)
		}
	}
	if w, e := order.Of(bad); e != api.ErrProg || len(w.Points) != 0 || len(w.Spans) != 0 {
		t.Error("Of:", w, e)
	}
}

// ladder leads from each of n points to the next one, and back: each one heads what is behind it.
func ladder(n int) api.Prog {
	var l []int
	for i := range n - 1 {
		l = append(l, i, i+1, i+1, i)
	}
	return program(n, l...)
}

func TestDeep(t *testing.T) {
	w, e := order.Of(ladder(65))
	if e != api.OK || wto.Depth(w) != 64 || wto.Check(w) != api.OK {
		t.Error("64 heads:", wto.Depth(w), e)
	}
	p := ladder(65)
	p.Edges = append(p.Edges, api.Edge{From: 64, To: 64, Stmt: api.Stmt{Kind: api.StSkip}})
	for _, p := range []api.Prog{p, ladder(66), ladder(128)} {
		if w, e := order.Of(p); e != api.ErrLong || len(w.Points) != 0 || len(w.Spans) != 0 {
			t.Error("65 heads:", w, e)
		}
	}
}

// What was handed in stays as it was.
func TestShares(t *testing.T) {
	p := ladder(5)
	old := slices.Clone(p.Edges)
	w, _ := order.Of(p)
	points, spans := slices.Clone(w.Points), slices.Clone(w.Spans)
	order.Follows(p, w)
	order.Back(p, w)
	if !slices.Equal(old, p.Edges) || !slices.Equal(points, w.Points) || !slices.Equal(spans, w.Spans) {
		t.Error("changed")
	}
}
