package ask_test

import (
	"math"
	"math/rand"
	"slices"
	"strings"
	"testing"

	"warrantor/api"
	"warrantor/ask"
)

func num(field, rel, n int) api.Term {
	return api.Term{Op: api.OpCmp, Field: field, Rel: rel, Num: n}
}

func text(field, rel int, s string) api.Term {
	return api.Term{Op: api.OpCmp, Field: field, Rel: rel, Text: s}
}

var (
	all = api.Term{Op: api.OpAll}
	not = api.Term{Op: api.OpNot}
	and = api.Term{Op: api.OpAnd}
	or  = api.Term{Op: api.OpOr}
	cmp = api.Term{Op: api.OpCmp, Field: api.FiLine, Rel: api.RelBelow, Num: 7}
)

// comparison tells whether t is one, field by field.
func comparison(t api.Term) bool {
	rels := map[int]string{1: "1", 2: "1", 3: "1", 4: "145", 5: "145", 6: "123", 7: "123", 8: "123", 9: "123", 10: "1"}[t.Field]
	if t.Op != api.OpCmp || t.Rel < 1 || t.Rel > 5 || !strings.Contains(rels, string(rune('0'+t.Rel))) {
		return false
	}
	switch t.Field {
	case api.FiKind, api.FiState:
		return t.Text == "" && t.Num >= 1 && t.Num <= 3
	case api.FiSev:
		return t.Text == "" && t.Num >= 1 && t.Num <= 2
	case api.FiLine, api.FiCount:
		return t.Text == "" && t.Num >= 0 && t.Num <= 1<<20
	case api.FiFinger:
		return t.Num == 0 && len(t.Text) == 16 && strings.Trim(t.Text, "0123456789abcdef") == ""
	}
	for i := range len(t.Text) {
		if t.Text[i] < 32 || t.Text[i] > 126 {
			return false
		}
	}
	return t.Num == 0 && len(t.Text) <= 128
}

func TestComparison(t *testing.T) {
	right := map[int]int{}
	for field := -1; field <= 12; field++ {
		for rel := -1; rel <= 7; rel++ {
			for _, n := range []int{-1, 0, 1, 2, 3, 4, 1 << 20, 1<<20 + 1, math.MaxInt, math.MinInt} {
				for _, s := range []string{"", "a", " ~\"\\", "\n", "\x1f", "\x7f", "\u00e9", "\xff", strings.Repeat("x", 128), strings.Repeat("x", 129), "0123456789abcdef", "0123456789abcdeF", "0123456789abcde"} {
					c := api.Term{Op: api.OpCmp, Field: field, Rel: rel, Num: n, Text: s}
					want := api.ErrAsk
					if comparison(c) {
						want = api.OK
						right[field]++
					}
					if e := ask.Filter([]api.Term{c}); e != want {
						t.Fatalf("Filter(%v) = %d", c, e)
					}
				}
			}
		}
	}
	if len(right) != 10 {
		t.Error(right)
	}
}

// chain is n terms, each about the next one, and one at the end.
func chain(n int) []api.Term { return append(slices.Repeat([]api.Term{not}, n-1), all) }

// wide is a filter of n comparisons, as flat as can be.
func wide(n int) []api.Term {
	if n == 1 {
		return []api.Term{cmp}
	}
	return slices.Concat([]api.Term{and}, wide(n/2), wide(n-n/2))
}

func TestFilter(t *testing.T) {
	full := append([]api.Term{not}, wide(64)...) // 128 terms
	deepWrong := append(chain(40), all)
	for k, c := range []struct {
		l    []api.Term
		e    api.Errno
		nest int
	}{
		{nil, api.ErrAsk, 0},
		{[]api.Term{all}, api.OK, 1},
		{[]api.Term{cmp}, api.OK, 1},
		{[]api.Term{not, all}, api.OK, 2},
		{[]api.Term{and, cmp, not, cmp}, api.OK, 3},
		{[]api.Term{or, and, cmp, all, cmp}, api.OK, 3},
		{[]api.Term{not}, api.ErrAsk, 0},
		{[]api.Term{and, cmp}, api.ErrAsk, 0},
		{[]api.Term{and}, api.ErrAsk, 0},
		{[]api.Term{all, all}, api.ErrAsk, 0},
		{[]api.Term{not, all, all}, api.ErrAsk, 0},
		{[]api.Term{and, all, all, all}, api.ErrAsk, 0},
		{[]api.Term{{}}, api.ErrAsk, 0},
		{[]api.Term{{Op: 6}}, api.ErrAsk, 0},
		{[]api.Term{{Op: -1}}, api.ErrAsk, 0},
		{[]api.Term{{Op: api.OpAll, Field: 1}}, api.ErrAsk, 0},
		{[]api.Term{{Op: api.OpAll, Rel: 1}}, api.ErrAsk, 0},
		{[]api.Term{{Op: api.OpNot, Num: 1}, all}, api.ErrAsk, 0},
		{[]api.Term{{Op: api.OpAnd, Text: "a"}, all, all}, api.ErrAsk, 0},
		{[]api.Term{{Op: api.OpOr, Num: 1}, all, all}, api.ErrAsk, 0},
		{[]api.Term{not, {Op: api.OpCmp}}, api.ErrAsk, 0},
		{chain(32), api.OK, 32},
		{chain(33), api.ErrLong, 0},
		{chain(128), api.ErrLong, 0},
		{deepWrong, api.ErrAsk, 0},
		{slices.Repeat([]api.Term{not}, 128), api.ErrAsk, 0},
		{full, api.OK, 8},
		{append([]api.Term{not}, full...), api.ErrLong, 0},
		{make([]api.Term, 129), api.ErrLong, 0},
		{make([]api.Term, 128), api.ErrAsk, 0},
	} {
		if e := ask.Filter(c.l); e != c.e {
			t.Errorf("%d: Filter tells %d, want %d", k, e, c.e)
		}
		if n := ask.Nest(c.l); n != c.nest {
			t.Errorf("%d: Nest tells %d, want %d", k, n, c.nest)
		}
		l, e := ask.Not(c.l)
		if e != c.e || e != api.OK && len(l) != 0 {
			t.Errorf("%d: Not tells %d, want %d", k, e, c.e)
		}
		a, b, ok := ask.Parts(c.l)
		if c.e != api.OK && (ok || len(a)+len(b) != 0) {
			t.Errorf("%d: Parts of what is none", k)
		}
		q := ask.Plain()
		q.Filter = c.l
		q.Back = 2
		want := c.e
		if want == api.OK {
			want = api.ErrAsk
		}
		if e := ask.Check(q); e != want {
			t.Errorf("%d: Check tells %d, want %d", k, e, want)
		}
	}
}

func TestParts(t *testing.T) {
	other := num(api.FiKind, api.RelIs, 2)
	for k, c := range []struct {
		l, a, b []api.Term
		ok      bool
	}{
		{[]api.Term{all}, nil, nil, false},
		{[]api.Term{cmp}, nil, nil, false},
		{[]api.Term{not, cmp}, []api.Term{cmp}, nil, true},
		{[]api.Term{not, and, cmp, all}, []api.Term{and, cmp, all}, nil, true},
		{[]api.Term{and, cmp, not, other}, []api.Term{cmp}, []api.Term{not, other}, true},
		{[]api.Term{or, and, cmp, all, not, other}, []api.Term{and, cmp, all}, []api.Term{not, other}, true},
		{[]api.Term{and, not, not, all, or, all, cmp}, []api.Term{not, not, all}, []api.Term{or, all, cmp}, true},
	} {
		a, b, ok := ask.Parts(c.l)
		if !slices.Equal(a, c.a) || !slices.Equal(b, c.b) || ok != c.ok {
			t.Errorf("%d: %v, %v, %v", k, a, b, ok)
		}
	}
	l := []api.Term{and, cmp, other}
	a, b, _ := ask.Parts(l)
	a = append(a, all)
	b[0].Num = 3
	if a[1] != all || l[2] != other {
		t.Error("parts are shared")
	}
}

func TestNot(t *testing.T) {
	other := num(api.FiKind, api.RelIs, 2)
	for k, c := range []struct{ l, want []api.Term }{
		{[]api.Term{all}, []api.Term{not, all}},
		{[]api.Term{cmp}, []api.Term{not, cmp}},
		{[]api.Term{not, cmp}, []api.Term{cmp}},
		{[]api.Term{not, all}, []api.Term{all}},
		{[]api.Term{not, not, cmp}, []api.Term{not, cmp}},
		{[]api.Term{not, not, not, cmp}, []api.Term{cmp}},
		{[]api.Term{and, cmp, other}, []api.Term{or, not, cmp, not, other}},
		{[]api.Term{or, cmp, other}, []api.Term{and, not, cmp, not, other}},
		{[]api.Term{not, and, cmp, other}, []api.Term{and, cmp, other}},
		{[]api.Term{not, or, not, cmp, not, not, other}, []api.Term{or, not, cmp, other}},
		{[]api.Term{and, or, cmp, not, all, not, and, other, all}, []api.Term{or, and, not, cmp, all, and, other, all}},
	} {
		old := slices.Clone(c.l)
		got, e := ask.Not(c.l)
		if e != api.OK || !slices.Equal(got, c.want) || !slices.Equal(old, c.l) {
			t.Errorf("%d: %v, %d, want %v", k, got, e, c.want)
		}
	}
}

func chance(r *rand.Rand, deep int) []api.Term {
	switch op := r.Intn(6); {
	case deep == 0 || op < 2:
		return [][]api.Term{{all}, {cmp}, {text(api.FiFile, api.RelHas, "a")}}[r.Intn(3)]
	case op == 2:
		return append([]api.Term{not}, chance(r, deep-1)...)
	default:
		return slices.Concat([]api.Term{{Op: api.OpAnd + op%2}}, chance(r, deep-1), chance(r, deep-1))
	}
}

// means tells whether a filter means something of which all comparisons hold that are asked for.
func means(l []api.Term, holds func(api.Term) bool) bool {
	a, b, ok := ask.Parts(l)
	switch {
	case !ok:
		return l[0] == all || holds(l[0])
	case l[0] == not:
		return !means(a, holds)
	case l[0] == and:
		return means(a, holds) && means(b, holds)
	}
	return means(a, holds) || means(b, holds)
}

func TestNotChance(t *testing.T) {
	r := rand.New(rand.NewSource(1))
	for range 2000 {
		l := chance(r, 4)
		n, e := ask.Not(l)
		nn, e2 := ask.Not(n)
		again, e3 := ask.Not(nn)
		back, e4 := ask.Not(again)
		if e != api.OK || e2 != api.OK || e3 != api.OK || e4 != api.OK || !slices.Equal(again, n) || !slices.Equal(back, nn) {
			t.Fatalf("%v: %v, %v", l, n, nn)
		}
		for i, x := range n {
			if x == not && n[i+1] != all && n[i+1].Op != api.OpCmp {
				t.Fatalf("%v: %v", l, n)
			}
		}
		for k := range 4 {
			holds := func(x api.Term) bool { return x == cmp && k&1 == 1 || x != cmp && k&2 == 2 }
			if means(l, holds) == means(n, holds) {
				t.Fatalf("%v and %v mean the same", l, n)
			}
		}
	}
}

func TestCheckPlain(t *testing.T) {
	plain := ask.Plain()
	if !ask.Same(plain, api.Query{Filter: []api.Term{all}, Order: api.FiFinger, Back: 0, From: 0, Most: 100}) || ask.Check(plain) != api.OK {
		t.Error("Plain:", plain)
	}
	plain.Filter[0] = cmp
	if ask.Plain().Filter[0] != all {
		t.Error("Plain shares")
	}
	for k, c := range []struct {
		change func(*api.Query)
		e      api.Errno
	}{
		{func(q *api.Query) { q.Order = 1 }, api.OK},
		{func(q *api.Query) { q.Order = 0 }, api.ErrAsk},
		{func(q *api.Query) { q.Order = 11 }, api.ErrAsk},
		{func(q *api.Query) { q.Order = -1 }, api.ErrAsk},
		{func(q *api.Query) { q.Back = 1 }, api.OK},
		{func(q *api.Query) { q.Back = 2 }, api.ErrAsk},
		{func(q *api.Query) { q.Back = -1 }, api.ErrAsk},
		{func(q *api.Query) { q.From = 1 << 20 }, api.OK},
		{func(q *api.Query) { q.From = 1<<20 + 1 }, api.ErrAsk},
		{func(q *api.Query) { q.From = -1 }, api.ErrAsk},
		{func(q *api.Query) { q.Most = 1 }, api.OK},
		{func(q *api.Query) { q.Most = 0 }, api.ErrAsk},
		{func(q *api.Query) { q.Most = 101 }, api.ErrAsk},
		{func(q *api.Query) { q.Most = -1 }, api.ErrAsk},
		{func(q *api.Query) { q.Filter = nil }, api.ErrAsk},
		{func(q *api.Query) { q.Filter = make([]api.Term, 129); q.Most = 0 }, api.ErrLong},
		{func(q *api.Query) { q.Filter = chain(33); q.Most = 0 }, api.ErrLong},
	} {
		q := ask.Plain()
		c.change(&q)
		if e := ask.Check(q); e != c.e {
			t.Errorf("%d: %d, want %d", k, e, c.e)
		}
		if !ask.Same(q, q) || ask.Same(q, ask.Plain()) || ask.Same(ask.Plain(), q) {
			t.Errorf("%d: Same", k)
		}
	}
	if !ask.Same(api.Query{}, api.Query{Filter: []api.Term{}}) {
		t.Error("Same of none")
	}
}
