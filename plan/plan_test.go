package plan_test

import (
	"math"
	"math/rand"
	"slices"
	"testing"

	"warrantor/api"
	"warrantor/ask"
	"warrantor/eval"
	"warrantor/index"
	"warrantor/plan"
)

func num(field, rel, n int) api.Term {
	return api.Term{Op: api.OpCmp, Field: field, Rel: rel, Num: n}
}

func text(field, rel int, s string) api.Term {
	return api.Term{Op: api.OpCmp, Field: field, Rel: rel, Text: s}
}

var (
	all = api.Term{Op: api.OpAll}
	not = api.Term{Op: api.OpNot}
	and = api.Term{Op: api.OpAnd}
	or  = api.Term{Op: api.OpOr}
)

func chance(r *rand.Rand, n int) []api.Entry {
	var l []api.Entry
	for i := range n {
		e := api.Entry{
			Finger: uint64(i)*7919 + uint64(r.Intn(7000)),
			Alarm:  api.Alarm{Kind: 1 + r.Intn(3), Sev: 1 + r.Intn(2), Func: []string{"f", "g", "fg"}[r.Intn(3)], File: []string{"a", "lib/a", "lib/b"}[r.Intn(3)], Line: 1 + r.Intn(6), Expr: []string{"x <= 1", "x <= 2"}[r.Intn(2)]},
			State:  1 + r.Intn(3), Count: 1 + r.Intn(4),
		}
		if e.State == api.EnMuted {
			e.Note = []string{"", "a", "ab"}[r.Intn(3)]
		}
		l = append(l, e)
	}
	return l
}

func filter(r *rand.Rand, deep int) []api.Term {
	switch op := r.Intn(6); {
	case op == 0:
		return []api.Term{all}
	case deep == 0 || op == 1:
		return []api.Term{[]api.Term{num(api.FiKind, api.RelIs, 2), num(api.FiLine, api.RelAbove, 3), num(api.FiCount, api.RelBelow, 3), text(api.FiFile, api.RelBegins, "lib"), text(api.FiNote, api.RelHas, "a"), num(api.FiState, api.RelIs, 2)}[r.Intn(6)]}
	case op == 2:
		return append([]api.Term{not}, filter(r, deep-1)...)
	default:
		return slices.Concat([]api.Term{{Op: api.OpAnd + op%2}}, filter(r, deep-1), filter(r, deep-1))
	}
}

// moves tells the moves of a filter by asking each entry.
func moves(l []api.Entry, f []api.Term, deep int) []api.Move {
	m := api.Move{Op: f[0].Op, Deep: deep}
	for _, e := range l {
		if is, _ := eval.Means(f, e); is {
			m.Many++
		}
	}
	a, b, ok := ask.Parts(f)
	out := []api.Move{m}
	if ok {
		out = append(out, moves(l, a, deep+1)...)
	}
	if len(b) > 0 {
		out = append(out, moves(l, b, deep+1)...)
	}
	return out
}

// What is planned is what is told without an index.
func TestChance(t *testing.T) {
	r := rand.New(rand.NewSource(1))
	for range 1000 {
		l := chance(r, r.Intn(30))
		x, e := index.Of(l)
		if e != api.OK {
			t.Fatal(e)
		}
		f := filter(r, 4)
		var want []uint64
		for _, e := range l {
			if is, _ := eval.Means(f, e); is {
				want = append(want, e.Finger)
			}
		}
		set, e := plan.Set(x, f)
		if e != api.OK || !slices.Equal(set, want) {
			t.Fatalf("Set(%v) = %v, %d, want %v", f, set, e, want)
		}
		got, e := plan.Moves(x, f)
		if e != api.OK || !slices.Equal(got, moves(l, f, 1)) || len(got) != len(f) {
			t.Fatalf("Moves(%v) = %v, %d, want %v", f, got, e, moves(l, f, 1))
		}
		q := api.Query{Filter: f, Order: 1 + r.Intn(10), Back: r.Intn(2), From: []int{0, r.Intn(30), 1 << 20}[r.Intn(3)], Most: 1 + r.Intn(20)}
		p, e := plan.Run(x, q)
		if page, _ := eval.Run(l, q); e != api.OK || !eval.Same(p, page) {
			t.Fatalf("Run(%v) = %v, %d, want %v", q, p, e, page)
		}
		// And and or have together as many as both.
		g := filter(r, 2)
		other, _ := plan.Set(x, g)
		both, _ := plan.Set(x, slices.Concat([]api.Term{and}, f, g))
		one, _ := plan.Set(x, slices.Concat([]api.Term{or}, f, g))
		if len(both)+len(one) != len(set)+len(other) {
			t.Fatalf("%v and %v", f, g)
		}
		if !slices.Equal(x.Entries(), l) {
			t.Fatal("the index is changed")
		}
	}
}

func TestExamples(t *testing.T) {
	l := chance(rand.New(rand.NewSource(2)), 4)
	for i := range l {
		l[i].Alarm.Line, l[i].Count = i+1, 1
	}
	l[2].Count, l[3].Count = 2, 2
	l[0].Count = 2
	x, _ := index.Of(l)
	f := []api.Term{and, num(api.FiLine, api.RelBelow, 3), num(api.FiCount, api.RelIs, 2)}
	m, e := plan.Moves(x, f)
	if e != api.OK || !slices.Equal(m, []api.Move{{Op: api.OpAnd, Deep: 1, Many: 1}, {Op: api.OpCmp, Deep: 2, Many: 2}, {Op: api.OpCmp, Deep: 2, Many: 3}}) {
		t.Error("the example:", m, e)
	}
	if got := plan.Show(m); !slices.Equal(got, []string{"and 1", "  is 2", "  is 3"}) {
		t.Errorf("shown: %q", got)
	}
	got := plan.Show([]api.Move{{Op: api.OpAll, Deep: 1, Many: 512}, {Op: api.OpNot, Deep: 2}, {Op: api.OpOr, Deep: 3, Many: 10}, {Op: 0, Deep: 0, Many: 1}, {Op: 6, Deep: -4, Many: -7}, {Op: -1, Deep: math.MinInt, Many: 0}, {Op: api.OpCmp, Deep: 5}})
	if !slices.Equal(got, []string{"all 512", "  not 0", "    or 10", "? 1", "? -7", "? 0", "        is 0"}) {
		t.Errorf("shown: %q", got)
	}
	if len(plan.Show(nil)) != 0 {
		t.Error("of none")
	}
}

func TestWrong(t *testing.T) {
	x, _ := index.Of(chance(rand.New(rand.NewSource(3)), 5))
	deep := append(slices.Repeat([]api.Term{not}, 32), all)
	for k, c := range []struct {
		x *index.Index
		l []api.Term
		e api.Errno
	}{
		{nil, []api.Term{all}, api.ErrShut},
		{nil, nil, api.ErrShut},
		{x, nil, api.ErrAsk},
		{x, []api.Term{not}, api.ErrAsk},
		{x, []api.Term{{Op: api.OpCmp}}, api.ErrAsk},
		{x, deep, api.ErrLong},
		{x, make([]api.Term, 129), api.ErrLong},
	} {
		set, e := plan.Set(c.x, c.l)
		m, e2 := plan.Moves(c.x, c.l)
		q := ask.Plain()
		q.Filter = c.l
		p, e3 := plan.Run(c.x, q)
		if e != c.e || e2 != c.e || e3 != c.e || len(set)+len(m) != 0 || !eval.Same(p, api.Page{}) {
			t.Errorf("%d: %d, %d, %d, want %d", k, e, e2, e3, c.e)
		}
	}
	for k, change := range []func(*api.Query){func(q *api.Query) { q.Order = 0 }, func(q *api.Query) { q.Back = 2 }, func(q *api.Query) { q.From = -1 }, func(q *api.Query) { q.Most = 101 }} {
		q := ask.Plain()
		change(&q)
		if p, e := plan.Run(x, q); e != api.ErrAsk || !eval.Same(p, api.Page{}) {
			t.Errorf("%d: %d", k, e)
		}
	}
	// What was put or dropped meanwhile counts.
	l := x.Entries()
	x.Drop(l[0].Finger)
	if set, _ := plan.Set(x, []api.Term{all}); len(set) != 4 {
		t.Error("dropped:", set)
	}
	x.Put(l[0])
	if p, _ := plan.Run(x, ask.Plain()); !eval.Same(p, api.Page{Entries: l, All: 5}) {
		t.Error("put:", p)
	}
}
