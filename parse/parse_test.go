package parse_test

import (
	"math/rand"
	"slices"
	"strings"
	"testing"

	"warrantor/api"
	"warrantor/ask"
	"warrantor/parse"
)

func num(field, rel, n int) api.Term {
	return api.Term{Op: api.OpCmp, Field: field, Rel: rel, Num: n}
}

func text(field, rel int, s string) api.Term {
	return api.Term{Op: api.OpCmp, Field: field, Rel: rel, Text: s}
}

var (
	all = api.Term{Op: api.OpAll}
	not = api.Term{Op: api.OpNot}
	and = api.Term{Op: api.OpAnd}
	or  = api.Term{Op: api.OpOr}
	a   = num(api.FiKind, api.RelIs, 1)
	b   = num(api.FiSev, api.RelIs, 2)
	c   = num(api.FiLine, api.RelAbove, 3)
)

func query(l ...api.Term) api.Query {
	q := ask.Plain()
	q.Filter = l
	return q
}

func by(q api.Query, order, back, from, most int) api.Query {
	q.Order, q.Back, q.From, q.Most = order, back, from, most
	return q
}

// texts are queries, and their texts.
var texts = []struct {
	q api.Query
	s string
}{
	{ask.Plain(), "all"},
	{query(num(api.FiKind, api.RelIs, 1)), "kind = diff"},
	{query(num(api.FiKind, api.RelIs, 2)), "kind = upper"},
	{query(num(api.FiKind, api.RelIs, 3)), "kind = lower"},
	{query(num(api.FiSev, api.RelIs, 1)), "sev = may"},
	{query(num(api.FiSev, api.RelIs, 2)), "sev = must"},
	{query(num(api.FiState, api.RelIs, 1)), "state = done"},
	{query(num(api.FiState, api.RelIs, 2)), "state = open"},
	{query(num(api.FiState, api.RelIs, 3)), "state = muted"},
	{query(num(api.FiLine, api.RelIs, 0)), "line = 0"},
	{query(num(api.FiLine, api.RelBelow, 1<<20)), "line < 1048576"},
	{query(num(api.FiLine, api.RelAbove, 10)), "line > 10"},
	{query(num(api.FiCount, api.RelAbove, 7)), "count > 7"},
	{query(text(api.FiFile, api.RelIs, "")), `file = ""`},
	{query(text(api.FiFile, api.RelHas, "a \"b\"\\")), `file ~ "a \"b\"\\"`},
	{query(text(api.FiFile, api.RelBegins, "lib/")), `file ^ "lib/"`},
	{query(text(api.FiFunc, api.RelIs, "and")), `func = "and"`},
	{query(text(api.FiExpr, api.RelHas, "<= 3")), `expr ~ "<= 3"`},
	{query(text(api.FiNote, api.RelBegins, strings.Repeat("x", 128))), `note ^ "` + strings.Repeat("x", 128) + `"`},
	{query(text(api.FiFinger, api.RelIs, "0123456789abcdef")), "finger = 0123456789abcdef"},
	{query(not, all), "not all"},
	{query(not, not, a), "not not kind = diff"},
	{query(and, a, b), "kind = diff and sev = must"},
	{query(or, a, b), "kind = diff or sev = must"},
	{query(and, and, a, b, c), "kind = diff and sev = must and line > 3"},
	{query(and, a, and, b, c), "kind = diff and ( sev = must and line > 3 )"},
	{query(or, or, a, b, c), "kind = diff or sev = must or line > 3"},
	{query(or, a, or, b, c), "kind = diff or ( sev = must or line > 3 )"},
	{query(or, and, a, b, c), "kind = diff and sev = must or line > 3"},
	{query(or, a, and, b, c), "kind = diff or sev = must and line > 3"},
	{query(and, or, a, b, c), "( kind = diff or sev = must ) and line > 3"},
	{query(and, a, or, b, c), "kind = diff and ( sev = must or line > 3 )"},
	{query(not, and, a, b), "not ( kind = diff and sev = must )"},
	{query(not, or, a, b), "not ( kind = diff or sev = must )"},
	{query(and, not, a, not, b), "not kind = diff and not sev = must"},
	{query(or, not, or, a, b, c), "not ( kind = diff or sev = must ) or line > 3"},
	{query(and, not, not, and, a, b, all), "not not ( kind = diff and sev = must ) and all"},
	{by(query(all), api.FiLine, 0, 0, 100), "all by line"},
	{by(query(all), api.FiLine, 1, 0, 100), "all by line back"},
	{by(query(all), api.FiFinger, 1, 0, 100), "all by finger back"},
	{by(query(all), api.FiFinger, 0, 5, 100), "all from 5"},
	{by(query(all), api.FiFinger, 0, 0, 1), "all most 1"},
	{by(query(all), api.FiFinger, 0, 1<<20, 99), "all from 1048576 most 99"},
	{by(query(and, num(api.FiState, api.RelIs, 2), or, c, not, text(api.FiFile, api.RelBegins, "lib/")), api.FiLine, 1, 0, 10), `state = open and ( line > 3 or not file ^ "lib/" ) by line back most 10`},
	{by(query(or, and, a, not, b, all), api.FiNote, 1, 3, 7), "kind = diff and not sev = must or all by note back from 3 most 7"},
}

func TestShowParse(t *testing.T) {
	for _, x := range texts {
		s, e := parse.Show(x.q)
		if s != x.s || e != api.OK {
			t.Errorf("%q is shown as %q, %d", x.s, s, e)
		}
		q, n, e := parse.Parse(x.s)
		if e != api.OK || n != len(x.s) || !ask.Same(q, x.q) {
			t.Errorf("Parse(%q) = %v, %d, %d", x.s, q, n, e)
		}
	}
	for _, x := range []struct {
		s    string
		want api.Query
	}{
		{"( all )", query(all)},
		{"( ( kind = diff ) )", query(a)},
		{"not ( kind = diff )", query(not, a)},
		{"( kind = diff and sev = must ) and line > 3", query(and, and, a, b, c)},
		{"( kind = diff and sev = must ) or line > 3", query(or, and, a, b, c)},
		{"all by finger", query(all)},
		{"all from 0", query(all)},
		{"all most 100", query(all)},
		{"all by kind from 0 most 100", by(query(all), api.FiKind, 0, 0, 100)},
		{"all and all and all or all or all and all", query(or, or, and, and, all, all, all, all, and, all, all)},
	} {
		q, n, e := parse.Parse(x.s)
		if e != api.OK || n != len(x.s) || !ask.Same(q, x.want) {
			t.Errorf("Parse(%q) = %v, %d, %d", x.s, q, n, e)
		}
	}
	for n, word := range []string{"kind", "sev", "state", "line", "count", "file", "func", "expr", "note", "finger"} {
		if q, _, e := parse.Parse("all by " + word); e != api.OK || q.Order != n+1 {
			t.Errorf("by %s: %d, %d", word, q.Order, e)
		}
	}
}

func TestShowWrong(t *testing.T) {
	for k, x := range []struct {
		q api.Query
		e api.Errno
	}{
		{api.Query{}, api.ErrAsk},
		{query(), api.ErrAsk},
		{query(not), api.ErrAsk},
		{query(append(slices.Repeat([]api.Term{not}, 32), all)...), api.ErrLong},
		{query(make([]api.Term, 129)...), api.ErrLong},
		{by(query(all), 0, 0, 0, 1), api.ErrAsk},
		{by(query(all), 1, 2, 0, 1), api.ErrAsk},
		{by(query(all), 1, 0, -1, 1), api.ErrAsk},
		{by(query(all), 1, 0, 0, 101), api.ErrAsk},
	} {
		if s, e := parse.Show(x.q); s != "" || e != x.e {
			t.Errorf("%d: %q, %d, want %d", k, s, e, x.e)
		}
	}
}

func TestParseWrong(t *testing.T) {
	nots := strings.Repeat("not ", 32)
	opens := strings.Repeat("( ", 32)
	ands := func(n int) string { return strings.Repeat("all and ", n-1) + "all" }
	flat := "all"
	for range 6 {
		flat = "( " + flat + " ) and ( " + flat + " )"
	}
	for _, x := range []struct {
		s   string
		col int
		e   api.Errno
	}{
		{strings.Repeat("a", 1<<15) + "b", 0, api.ErrLong},
		{strings.Repeat(" ", 1<<15), 1, api.ErrLex},
		{"all\n", 4, api.ErrLex},
		{"all\nall", 4, api.ErrLex},
		{"\nall", 1, api.ErrLex},
		{"x \nall", 3, api.ErrLex},
		{" all", 1, api.ErrLex},
		{"all  by line", 5, api.ErrLex},
		{"all ", 5, api.ErrLex},
		{"file = \"a", 10, api.ErrLex},
		{"file = \"a\\x\"", 11, api.ErrLex},
		{"file = \"a\nb\"", 10, api.ErrLex},
		{"x\ty", 2, api.ErrLex},
		{"wrong but \x01", 11, api.ErrLex},
		{"wrong", 1, api.ErrAsk},
		{"\"all\"", 1, api.ErrAsk},
		{"all all", 5, api.ErrAsk},
		{"all and", 8, api.ErrAsk},
		{"all or", 7, api.ErrAsk},
		{"not", 4, api.ErrAsk},
		{"and all", 1, api.ErrAsk},
		{"(", 2, api.ErrAsk},
		{"( all", 6, api.ErrAsk},
		{"( all ) )", 9, api.ErrAsk},
		{"( )", 3, api.ErrAsk},
		{"(all)", 1, api.ErrAsk},
		{"( all by line )", 7, api.ErrAsk},
		{"kind", 5, api.ErrAsk},
		{"kind =", 7, api.ErrAsk},
		{"kind diff", 6, api.ErrAsk},
		{"kind \"=\" diff", 6, api.ErrAsk},
		{"kind == diff", 6, api.ErrAsk},
		{"kind < diff", 6, api.ErrAsk},
		{"kind ~ diff", 6, api.ErrAsk},
		{"kind = \"diff\"", 8, api.ErrAsk},
		{"kind = 1", 8, api.ErrAsk},
		{"kind = may", 8, api.ErrAsk},
		{"sev = diff", 7, api.ErrAsk},
		{"sev > may", 5, api.ErrAsk},
		{"state = closed", 9, api.ErrAsk},
		{"state ^ open", 7, api.ErrAsk},
		{"line ~ 3", 6, api.ErrAsk},
		{"line ^ 3", 6, api.ErrAsk},
		{"line = 03", 8, api.ErrAsk},
		{"line = -1", 8, api.ErrAsk},
		{"line = +1", 8, api.ErrAsk},
		{"line = inf", 8, api.ErrAsk},
		{"line = 1048577", 8, api.ErrAsk},
		{"line = \"3\"", 8, api.ErrAsk},
		{"count < 1048577", 9, api.ErrAsk},
		{"file < \"a\"", 6, api.ErrAsk},
		{"func > \"a\"", 6, api.ErrAsk},
		{"file = a", 8, api.ErrAsk},
		{"expr = \"" + strings.Repeat("x", 129) + "\"", 8, api.ErrAsk},
		{"finger ~ 0123456789abcdef", 8, api.ErrAsk},
		{"finger = 0123456789abcde", 10, api.ErrAsk},
		{"finger = 0123456789abcdeF", 10, api.ErrAsk},
		{"finger = \"0123456789abcdef\"", 10, api.ErrAsk},
		{"all by", 7, api.ErrAsk},
		{"all by lines", 8, api.ErrAsk},
		{"all by \"line\"", 8, api.ErrAsk},
		{"all back", 5, api.ErrAsk},
		{"all by line back back", 18, api.ErrAsk},
		{"all by line by file", 13, api.ErrAsk},
		{"all from", 9, api.ErrAsk},
		{"all from x", 10, api.ErrAsk},
		{"all from 1048577", 10, api.ErrAsk},
		{"all from -1", 10, api.ErrAsk},
		{"all from 01", 10, api.ErrAsk},
		{"all most 0", 10, api.ErrAsk},
		{"all most 101", 10, api.ErrAsk},
		{"all most 5 from 3", 12, api.ErrAsk},
		{"all from 3 by line", 12, api.ErrAsk},
		{"all most 5 5", 12, api.ErrAsk},
		{"all most \"5\"", 10, api.ErrAsk},
		{nots + "not all", 129, api.ErrLong},
		{nots + "( all )", 129, api.ErrLong},
		{opens + "( all", 65, api.ErrLong},
		{opens + "not all", 65, api.ErrLong},
		{nots + "x", 129, api.ErrAsk},
		{nots + "all", 132, api.ErrLong}, // 33 deep
		{ands(33), len(ands(33)) + 1, api.ErrLong},
		{strings.ReplaceAll(ands(40), "and", "or"), len(ands(40)) - 39 + 1, api.ErrLong},
		{flat + " and " + flat, 2*len(flat) + 6, api.ErrLong}, // 255 terms
		{ands(33) + " x", len(ands(33)) + 2, api.ErrAsk},
	} {
		q, col, e := parse.Parse(x.s)
		if col != x.col || e != x.e || !ask.Same(q, api.Query{}) {
			t.Errorf("Parse(%.40q) = %d, %d, want %d, %d", x.s, col, e, x.col, x.e)
		}
	}
	if q, n, e := parse.Parse(""); e == api.OK || n != 1 || !ask.Same(q, api.Query{}) {
		t.Error("of nothing:", n, e)
	}
	for _, s := range []string{nots[4:] + "all", opens + "all" + strings.Repeat(" )", 32), ands(32), flat} {
		if _, n, e := parse.Parse(s); e != api.OK || n != len(s) {
			t.Errorf("Parse(%.40q) = %d, %d", s, n, e)
		}
	}
	// What was closed is open no more.
	s := strings.Repeat("( not all ) or ", 30) + "all"
	if _, _, e := parse.Parse(s); e != api.OK {
		t.Error("closed:", e)
	}
}

func chance(r *rand.Rand, deep int) []api.Term {
	switch op := r.Intn(6); {
	case deep == 0 || op < 2:
		return [][]api.Term{{all}, {a}, {b}, {c}, {text(api.FiNote, api.RelHas, "\"and\"")}, {text(api.FiFinger, api.RelIs, "00000000000000ff")}}[r.Intn(6)]
	case op == 2:
		return append([]api.Term{not}, chance(r, deep-1)...)
	default:
		return slices.Concat([]api.Term{{Op: api.OpAnd + op%2}}, chance(r, deep-1), chance(r, deep-1))
	}
}

func TestBothWays(t *testing.T) {
	r := rand.New(rand.NewSource(1))
	for range 3000 {
		q := by(query(chance(r, 4)...), 1+r.Intn(10), r.Intn(2), []int{0, r.Intn(1 << 20)}[r.Intn(2)], 1+r.Intn(100))
		if ask.Check(q) != api.OK {
			continue
		}
		s, e := parse.Show(q)
		got, n, e2 := parse.Parse(s)
		if e != api.OK || e2 != api.OK || n != len(s) || !ask.Same(got, q) {
			t.Fatalf("%v is shown as %q, and parsed as %v", q, s, got)
		}
		// No pair of parentheses can be left out.
		toks := strings.Split(s, " ")
		for i, x := range toks {
			for j := i + 1; x == "(" && j < len(toks); j++ {
				if toks[j] != ")" {
					continue
				}
				less := strings.Join(slices.Concat(toks[:i], toks[i+1:j], toks[j+1:]), " ")
				if got, _, e := parse.Parse(less); e == api.OK && ask.Same(got, q) {
					t.Fatalf("%q says the same as %q", less, s)
				}
			}
		}
	}
	words := []string{"all", "not", "(", ")", "and", "or", "kind", "=", "diff", "line", "<", "3", "by", "back", "from", "most", "\"a\"", "file", "~"}
	right := 0
	for range 200000 {
		var l []string
		for range 1 + r.Intn(7) {
			l = append(l, words[r.Intn(len(words))])
		}
		s := strings.Join(l, " ")
		q, col, e := parse.Parse(s)
		if e != api.OK {
			if e != api.ErrAsk || col > len(s)+1 || col < 1 {
				t.Fatalf("Parse(%q) = %d, %d", s, col, e)
			}
			// What stands ahead of the column may go on, what stands there not.
			continue
		}
		right++
		back, e := parse.Show(q)
		again, _, e2 := parse.Parse(back)
		if e != api.OK || e2 != api.OK || !ask.Same(again, q) || len(back) > len(s) {
			t.Fatalf("%q is shown as %q", s, back)
		}
	}
	if right < 500 {
		t.Error(right)
	}
}

// The greatest queries there can be are shown, and parsed.
func TestGreatest(t *testing.T) {
	long := text(api.FiNote, api.RelHas, strings.Repeat("\"", 128))
	var wide func(n int) []api.Term
	wide = func(n int) []api.Term {
		if n == 1 {
			return []api.Term{long}
		}
		return slices.Concat([]api.Term{or}, wide(n/2), wide(n-n/2))
	}
	deep := slices.Repeat([]api.Term{not, and}, 15)
	deep = append(deep, not, long)
	for range 15 {
		deep = append(deep, long)
	}
	for k, l := range [][]api.Term{wide(64), append([]api.Term{not}, wide(64)...), deep} {
		q := by(query(l...), api.FiCount, 1, 1<<20, 99)
		s, e := parse.Show(q)
		got, _, e2 := parse.Parse(s)
		if e != api.OK || e2 != api.OK || !ask.Same(got, q) {
			t.Errorf("%d: %d, %d", k, e, e2)
		}
	}
}
