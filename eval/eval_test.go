package eval_test

import (
	"math"
	"math/rand"
	"slices"
	"strings"
	"testing"

	"warrantor/api"
	"warrantor/ask"
	"warrantor/eval"
	"warrantor/fnv"
	"warrantor/journal"
)

func num(field, rel, n int) api.Term {
	return api.Term{Op: api.OpCmp, Field: field, Rel: rel, Num: n}
}

func text(field, rel int, s string) api.Term {
	return api.Term{Op: api.OpCmp, Field: field, Rel: rel, Text: s}
}

var (
	all = api.Term{Op: api.OpAll}
	not = api.Term{Op: api.OpNot}
	and = api.Term{Op: api.OpAnd}
	or  = api.Term{Op: api.OpOr}
)

func entry() api.Entry {
	return api.Entry{
		Finger: 0xabc,
		Alarm:  api.Alarm{Kind: api.AlUpper, Sev: api.SevMust, Func: "main", File: "lib/a.w", Line: 9, Expr: "i <= 3"},
		State:  api.EnMuted, Count: 5, Note: "a note",
	}
}

func TestMeans(t *testing.T) {
	yes, no := num(api.FiLine, api.RelIs, 9), num(api.FiLine, api.RelIs, 8)
	for k, c := range []struct {
		l    []api.Term
		want bool
	}{
		{[]api.Term{all}, true},
		{[]api.Term{num(api.FiKind, api.RelIs, 2)}, true},
		{[]api.Term{num(api.FiKind, api.RelIs, 1)}, false},
		{[]api.Term{num(api.FiSev, api.RelIs, 2)}, true},
		{[]api.Term{num(api.FiSev, api.RelIs, 1)}, false},
		{[]api.Term{num(api.FiState, api.RelIs, 3)}, true},
		{[]api.Term{num(api.FiState, api.RelIs, 2)}, false},
		{[]api.Term{yes}, true},
		{[]api.Term{no}, false},
		{[]api.Term{num(api.FiLine, api.RelBelow, 10)}, true},
		{[]api.Term{num(api.FiLine, api.RelBelow, 9)}, false},
		{[]api.Term{num(api.FiLine, api.RelAbove, 8)}, true},
		{[]api.Term{num(api.FiLine, api.RelAbove, 9)}, false},
		{[]api.Term{num(api.FiCount, api.RelIs, 5)}, true},
		{[]api.Term{num(api.FiCount, api.RelBelow, 5)}, false},
		{[]api.Term{num(api.FiCount, api.RelAbove, 4)}, true},
		{[]api.Term{text(api.FiFile, api.RelIs, "lib/a.w")}, true},
		{[]api.Term{text(api.FiFile, api.RelIs, "lib/a")}, false},
		{[]api.Term{text(api.FiFile, api.RelHas, "/a")}, true},
		{[]api.Term{text(api.FiFile, api.RelHas, "")}, true},
		{[]api.Term{text(api.FiFile, api.RelHas, "b/a")}, true},
		{[]api.Term{text(api.FiFile, api.RelHas, "/b")}, false},
		{[]api.Term{text(api.FiFile, api.RelBegins, "lib/")}, true},
		{[]api.Term{text(api.FiFile, api.RelBegins, "a")}, false},
		{[]api.Term{text(api.FiFunc, api.RelIs, "main")}, true},
		{[]api.Term{text(api.FiFunc, api.RelBegins, "Main")}, false},
		{[]api.Term{text(api.FiExpr, api.RelHas, "<=")}, true},
		{[]api.Term{text(api.FiExpr, api.RelIs, "i<=3")}, false},
		{[]api.Term{text(api.FiNote, api.RelBegins, "a ")}, true},
		{[]api.Term{text(api.FiNote, api.RelIs, "")}, false},
		{[]api.Term{text(api.FiFinger, api.RelIs, "0000000000000abc")}, true},
		{[]api.Term{text(api.FiFinger, api.RelIs, "0000000000000abd")}, false},
		{[]api.Term{not, yes}, false},
		{[]api.Term{not, no}, true},
		{[]api.Term{and, yes, yes}, true},
		{[]api.Term{and, yes, no}, false},
		{[]api.Term{and, no, yes}, false},
		{[]api.Term{or, yes, no}, true},
		{[]api.Term{or, no, yes}, true},
		{[]api.Term{or, no, no}, false},
		{[]api.Term{and, or, no, yes, not, and, yes, no}, true},
	} {
		got, e := eval.Means(c.l, entry())
		if got != c.want || e != api.OK {
			t.Errorf("%d: %v, %d", k, got, e)
		}
	}
	// Whatever an entry is.
	odd := api.Entry{Alarm: api.Alarm{Kind: -1, Line: -5, File: "\xff"}, Count: math.MinInt, Note: "\n"}
	for k, c := range []struct {
		l    []api.Term
		want bool
	}{
		{[]api.Term{num(api.FiLine, api.RelBelow, 0)}, true},
		{[]api.Term{num(api.FiCount, api.RelAbove, 0)}, false},
		{[]api.Term{num(api.FiState, api.RelIs, 1)}, false},
		{[]api.Term{text(api.FiFile, api.RelBegins, "")}, true},
	} {
		if got, e := eval.Means(c.l, odd); got != c.want || e != api.OK {
			t.Errorf("odd %d: %v, %d", k, got, e)
		}
	}
	for k, c := range []struct {
		l []api.Term
		e api.Errno
	}{
		{nil, api.ErrAsk},
		{[]api.Term{not}, api.ErrAsk},
		{[]api.Term{{}}, api.ErrAsk},
		{make([]api.Term, 129), api.ErrLong},
		{append(slices.Repeat([]api.Term{not}, 32), all), api.ErrLong},
	} {
		if got, e := eval.Means(c.l, entry()); got || e != c.e {
			t.Errorf("wrong %d: %v, %d", k, got, e)
		}
	}
}

func by(order, back, from, most int, l ...api.Term) api.Query {
	return api.Query{Filter: l, Order: order, Back: back, From: from, Most: most}
}

func TestLess(t *testing.T) {
	a, b := entry(), entry()
	b.Finger = 1 << 63
	more := []func(*api.Entry){
		api.FiKind:   func(e *api.Entry) { e.Alarm.Kind = 3 },
		api.FiSev:    func(e *api.Entry) { e.Alarm.Sev = 9 },
		api.FiState:  func(e *api.Entry) { e.State = 4 },
		api.FiLine:   func(e *api.Entry) { e.Alarm.Line = 10 },
		api.FiCount:  func(e *api.Entry) { e.Count = 10 },
		api.FiFile:   func(e *api.Entry) { e.Alarm.File = "lib/b" },
		api.FiFunc:   func(e *api.Entry) { e.Alarm.Func = "\xff" },
		api.FiExpr:   func(e *api.Entry) { e.Alarm.Expr = "j" },
		api.FiNote:   func(e *api.Entry) { e.Note = "a note " },
		api.FiFinger: func(e *api.Entry) { e.Finger = math.MaxUint64 },
	}
	less := func(q api.Query, x, y api.Entry, want bool) {
		t.Helper()
		if got, e := eval.Less(q, x, y); got != want || e != api.OK {
			t.Errorf("Less(%v, %v, %v) = %v, %d", q, x, y, got, e)
		}
	}
	for order := 1; order <= 10; order++ {
		on, back := by(order, 0, 0, 1, all), by(order, 1, 0, 1, all)
		c := b
		more[order](&c)
		for _, two := range [][2]api.Entry{{a, b}, {a, c}, {b, c}} {
			less(on, two[0], two[1], true)
			less(on, two[1], two[0], false)
			less(back, two[0], two[1], false)
			less(back, two[1], two[0], true)
		}
		less(on, a, a, false)
		less(back, a, a, false)
		if order != api.FiFinger { // the field counts more than the fingerprint
			d := a
			more[order](&d)
			less(on, b, d, true)
			less(back, b, d, false)
			less(back, d, b, true)
		}
	}
	low, high := a, a
	low.Alarm.Line, high.Alarm.Line, low.Finger = -5, 3, 0xfff
	less(by(api.FiLine, 0, 0, 1, all), low, high, true)
	for k, c := range []struct {
		q api.Query
		e api.Errno
	}{{by(0, 0, 0, 1, all), api.ErrAsk}, {by(1, 0, 0, 0, all), api.ErrAsk}, {by(1, 0, 0, 1), api.ErrAsk}, {by(1, 0, 0, 1, make([]api.Term, 129)...), api.ErrLong}} {
		if got, e := eval.Less(c.q, a, b); got || e != c.e {
			t.Errorf("wrong %d: %v, %d", k, got, e)
		}
	}
}

// chance are entries that stand, of few values each.
func chance(r *rand.Rand, n int) []api.Entry {
	var l []api.Entry
	for i := range n {
		e := api.Entry{
			Finger: uint64(i)*7919 + uint64(r.Intn(7000)),
			Alarm:  api.Alarm{Kind: 1 + r.Intn(3), Sev: 1 + r.Intn(2), Func: []string{"f", "g", "fg"}[r.Intn(3)], File: []string{"a", "lib/a", "lib/b"}[r.Intn(3)], Line: 1 + r.Intn(6), Expr: []string{"x <= 1", "x <= 2"}[r.Intn(2)]},
			State:  1 + r.Intn(3), Count: 1 + r.Intn(4),
		}
		if e.State == api.EnMuted {
			e.Note = []string{"", "a", "ab"}[r.Intn(3)]
		}
		l = append(l, e)
	}
	return l
}

func term(r *rand.Rand, l []api.Entry) api.Term {
	switch field := 1 + r.Intn(10); field {
	case api.FiKind, api.FiSev, api.FiState:
		return num(field, api.RelIs, 1+r.Intn(2))
	case api.FiLine, api.FiCount:
		return num(field, []int{api.RelIs, api.RelBelow, api.RelAbove}[r.Intn(3)], r.Intn(6))
	case api.FiFinger:
		if len(l) > 0 && r.Intn(2) == 0 {
			return text(field, api.RelIs, fnv.Show(l[r.Intn(len(l))].Finger))
		}
		return text(field, api.RelIs, fnv.Show(9))
	default:
		return text(field, 1+r.Intn(3), []string{"", "a", "f", "lib/", "x <= 1"}[r.Intn(5)])
	}
}

func filter(r *rand.Rand, l []api.Entry, deep int) []api.Term {
	switch op := r.Intn(6); {
	case op == 0:
		return []api.Term{all}
	case deep == 0 || op == 1:
		return []api.Term{term(r, l)}
	case op == 2:
		return append([]api.Term{not}, filter(r, l, deep-1)...)
	default:
		return slices.Concat([]api.Term{{Op: api.OpAnd + op%2}}, filter(r, l, deep-1), filter(r, l, deep-1))
	}
}

func TestRun(t *testing.T) {
	r := rand.New(rand.NewSource(1))
	for range 1500 {
		l := chance(r, r.Intn(30))
		old := slices.Clone(l)
		f := filter(r, l, 3)
		q := by(1+r.Intn(10), r.Intn(2), []int{0, 0, r.Intn(40), 1 << 20}[r.Intn(4)], 1+r.Intn(20), f...)
		var want []api.Entry
		for _, e := range l {
			if is, _ := eval.Means(f, e); is {
				want = append(want, e)
			}
			n, _ := ask.Not(f)
			is, _ := eval.Means(f, e)
			if other, _ := eval.Means(n, e); is == other {
				t.Fatalf("%v and %v mean %v", f, n, e)
			}
		}
		all := len(want)
		slices.SortFunc(want, func(a, b api.Entry) int {
			if less, _ := eval.Less(q, a, b); less {
				return -1
			}
			return 1
		})
		want = want[min(q.From, len(want)):]
		want = want[:min(q.Most, len(want))]
		p, e := eval.Run(l, q)
		if e != api.OK || p.All != all || !slices.Equal(p.Entries, want) || !slices.Equal(l, old) {
			t.Fatalf("Run(%v) = %v, %d, want %v of %d", q, p, e, want, all)
		}
		// Pages one behind the other tell each that is meant once.
		var pages []api.Entry
		q.From = 0
		for q.From < all {
			p, _ := eval.Run(l, q)
			pages = append(pages, p.Entries...)
			q.From += q.Most
		}
		q.From, q.Most = 0, 100
		if p, _ := eval.Run(l, q); !slices.Equal(pages, p.Entries) {
			t.Fatalf("pages: %v, want %v", pages, p.Entries)
		}
	}
}

func TestRunExamples(t *testing.T) {
	l := []api.Entry{entry(), entry(), entry()}
	for i := range l {
		l[i].Finger, l[i].State, l[i].Note = uint64(i), api.EnOpen, ""
	}
	l[0].Alarm.Line, l[1].Alarm.Line, l[2].State = 3, 9, api.EnDone
	p, e := eval.Run(l, by(api.FiLine, 1, 0, 100, num(api.FiState, api.RelIs, api.EnOpen)))
	if e != api.OK || !eval.Same(p, api.Page{Entries: []api.Entry{l[1], l[0]}, All: 2}) {
		t.Error("the example:", p, e)
	}
	p, e = eval.Run(nil, ask.Plain())
	if e != api.OK || !eval.Same(p, api.Page{}) {
		t.Error("of none:", p, e)
	}
	for k, c := range []struct {
		l []api.Entry
		q api.Query
		e api.Errno
	}{
		{[]api.Entry{l[1], l[0]}, api.Query{}, api.ErrArg},
		{[]api.Entry{{}}, ask.Plain(), api.ErrArg},
		{l, api.Query{}, api.ErrAsk},
		{l, by(1, 0, 0, 1, make([]api.Term, 129)...), api.ErrLong},
	} {
		if p, e := eval.Run(c.l, c.q); e != c.e || !eval.Same(p, api.Page{}) {
			t.Errorf("%d: %v, %d, want %d", k, p, e, c.e)
		}
	}
	many := chance(rand.New(rand.NewSource(2)), 512)
	p, e = eval.Run(many, ask.Plain())
	if e != api.OK || p.All != 512 || !slices.Equal(p.Entries, many[:100]) || !journal.Stand(many) {
		t.Error("many:", p.All, e)
	}
	p.Entries[0].Count = 99
	if many[0].Count == 99 {
		t.Error("shared")
	}
}

func TestSame(t *testing.T) {
	p := api.Page{Entries: []api.Entry{entry()}, All: 3}
	other := entry()
	other.Note = strings.Repeat("x", 3)
	for k, c := range []struct {
		q    api.Page
		want bool
	}{
		{api.Page{Entries: []api.Entry{entry()}, All: 3}, true},
		{api.Page{Entries: []api.Entry{entry()}, All: 2}, false},
		{api.Page{Entries: []api.Entry{other}, All: 3}, false},
		{api.Page{All: 3}, false},
	} {
		if eval.Same(p, c.q) != c.want || eval.Same(c.q, p) != c.want {
			t.Errorf("%d: Same", k)
		}
	}
	if !eval.Same(api.Page{}, api.Page{Entries: []api.Entry{}}) {
		t.Error("Same of none")
	}
}
