package text_test

import (
	"math/rand"
	"slices"
	"strconv"
	"strings"
	"testing"

	"warrantor/alarm"
	"warrantor/api"
	"warrantor/bin"
	"warrantor/dbm"
	"warrantor/prog"
	"warrantor/result"
	"warrantor/text"
	"warrantor/zone"
)

func edge(from, to int, s api.Stmt) api.Edge { return api.Edge{From: from, To: to, Stmt: s} }

func spot(fn, file string, line int) api.Spot { return api.Spot{Func: fn, File: file, Line: line} }

func all(n int) api.Zone {
	z, _ := dbm.All(n)
	return z
}

// made is the result of a loop up to 10, and two checks behind it.
func made() api.Result {
	p := api.Prog{
		Name:  "count",
		Vars:  []string{"i", "n"},
		Spots: []api.Spot{spot("main", "a.w", 1), spot("main", "a.w", 200), spot("main", "a.w", 3), spot("last", "lib/b.w", 1<<20), spot("last", "lib/b.w", 5), spot("none", "c", 7)},
		Edges: []api.Edge{
			edge(0, 1, api.Stmt{Kind: api.StLet, X: 1}),
			edge(1, 2, api.Stmt{Kind: api.StLimit, X: 1, C: 9}),
			edge(2, 1, api.Stmt{Kind: api.StLet, X: 1, Y: 1, C: 1}),
			edge(1, 3, api.Stmt{Kind: api.StLimit, Y: 1, C: -10}),
			edge(3, 4, api.Stmt{Kind: api.StCheck, X: 1, C: 10}),
			edge(3, 4, api.Stmt{Kind: api.StCheck, X: 1, Y: 2}),
			edge(3, 4, api.Stmt{Kind: api.StCheck, Y: 1, C: -11}),
		},
	}
	r, e := result.Make(p, all(2), []api.Mark{{Finger: 3}, {Finger: 0xabcdef0123456789, Note: "a \"known\" one\\"}})
	if e != api.OK {
		panic(e)
	}
	return r
}

const want = `airx 1
program count
vars i n
point 0 main a.w 1
point 1 main a.w 200
point 2 main a.w 3
point 3 last lib/b.w 1048576
point 4 last lib/b.w 5
point 5 none c 7
edge 0 1 "i := 0"
edge 1 2 "limit i <= 9"
edge 2 1 "i := i + 1"
edge 1 3 "limit -i <= -10"
edge 3 4 "check i <= 10"
edge 3 4 "check i - n <= 0"
edge 3 4 "check -i <= -11"
order "0 (1 2) 3 4"
first all
zone 0 all
zone 1 -i<=0 i<=10 i-n<=1099511627786 n-i<=1099511627776
zone 2 -i<=0 i<=9 i-n<=1099511627785 n-i<=1099511627776
zone 3 -i<=-10 i<=10 i-n<=1099511627786 n-i<=1099511627766
zone 4 -i<=-10 i<=10 i-n<=1099511627786 n-i<=1099511627766
zone 5 none
alarm diff may last lib/b.w 1048576 "i - n <= 0"
alarm lower must last lib/b.w 1048576 "-i <= -11"
mark 0000000000000003 ""
mark abcdef0123456789 "a \"known\" one\\"
end
`

func TestPut(t *testing.T) {
	r := made()
	s, e := text.Put(r)
	if s != want || e != api.OK {
		t.Errorf("Put: %d\n%s", e, s)
	}
	got, lines, col, e := text.Get(want)
	if e != api.OK || lines != 29 || col != 0 || !result.Same(got, r) {
		t.Errorf("Get: %v, %d, %d, %d", got, lines, col, e)
	}
	small := api.Prog{Name: "p", Spots: []api.Spot{spot("f", "a", 1)}}
	r, _ = result.Make(small, all(0), nil)
	want := "airx 1\nprogram p\nvars\npoint 0 f a 1\norder \"0\"\nfirst all\nzone 0 all\nend\n"
	if s, e := text.Put(r); s != want || e != api.OK {
		t.Errorf("the smallest one: %d\n%s", e, s)
	}
	if got, lines, _, e := text.Get(want); e != api.OK || lines != 8 || !result.Same(got, r) {
		t.Error("the smallest one:", e)
	}
	for k, c := range []struct {
		change func(*api.Result)
		e      api.Errno
	}{
		{func(r *api.Result) { r.Prog.Name = "" }, api.ErrProg},
		{func(r *api.Result) { r.First.Vars = 1 }, api.ErrInit},
		{func(r *api.Result) { r.Wto = api.Wto{} }, api.ErrOrder},
		{func(r *api.Result) { r.Zones[2] = api.Zone{Vars: 2} }, api.ErrSound},
		{func(r *api.Result) { r.Alarms = nil }, api.ErrAlarm},
		{func(r *api.Result) { r.Marks[1].Finger = 0 }, api.ErrMark},
	} {
		r := made()
		c.change(&r)
		if s, e := text.Put(r); e != c.e || s != "" {
			t.Errorf("%d: %q, %d, want %d", k, s, e, c.e)
		}
	}
}

// place tells the line and the column of the first time that s stands in the text.
func place(in, s string) (int, int) {
	at := strings.Index(in, s)
	if at < 0 {
		panic(s)
	}
	return 1 + strings.Count(in[:at], "\n"), at - strings.LastIndex(in[:at], "\n")
}

// TestForm: in the text old is written as new; the fault is where mark stands in new, as far in as it begins there.
func TestForm(t *testing.T) {
	for _, c := range []struct{ old, new, mark string }{
		{"airx 1\n", "air 1\n", "air"},
		{"airx 1\n", "airx 2\n", "2\n"},
		{"airx 1\n", "airx \"1\"\n", "\"1"},
		{"airx 1\n", "airx 01\n", "01"},
		{"airx 1\n", "airx\n", "\nprogram"},
		{"airx 1\n", "airx 1 1\n", "1\n"},
		{"airx 1\n", "program count\n", "program"},
		{"airx 1\n", "\"airx\" 1\n", "\"airx"},
		{"program count\n", "program\n", "\nvars"},
		{"program count\n", "program \"count\"\n", "\"count"},
		{"program count\n", "program count count\n", "count\nvars"},
		{"program count\n", "", "vars i"},
		{"program count\n", "program count\nprogram count\n", "program count\nvars"},
		{"vars i n\n", "vars i \"n\"\n", "\"n"},
		{"vars i n\n", "vars i n a b c d e f g\n", "g\n"},
		{"vars i n\n", "", "point 0"},
		{"vars i n\n", "vars i n\nvars i n\n", "vars i n\npoint"},
		{"point 0 main", "point 1 main", "1 main"},
		{"point 0 main", "point 00 main", "00 main"},
		{"point 1 main", "point 2 main", "2 main"},
		{"point 1 main a.w 200\n", "", "2 main"},
		{"point 0 main a.w 1\n", "point 0 main a.w\n", "\npoint 1"},
		{"point 0 main a.w 1\n", "point 0 main a.w 1 1\n", "1\npoint 1"},
		{"point 0 main a.w 1\n", "point 0 main a.w 01\n", "01\n"},
		{"point 0 main a.w 1\n", "point 0 main a.w +1\n", "+1"},
		{"point 0 main a.w 1\n", "point 0 main a.w -1\n", "-1"},
		{"point 0 main a.w 1\n", "point 0 main a.w x\n", "x\npoint 1"},
		{"point 0 main a.w 1\n", "point 0 main a.w 1048577\n", "1048577"},
		{"point 0 main a.w 1\n", "point 0 main a.w inf\n", "inf"},
		{"point 0 main a.w 1\n", "point 0 main \"a.w\" 1\n", "\"a.w"},
		{"point 0 main a.w 1\n", "point 0 \"main\" a.w 1\n", "\"main"},
		{"edge 0 1 \"i := 0\"\n", "edge 0 1 \"i := x\"\n", "\"i := x"},
		{"edge 0 1 \"i := 0\"\n", "edge 0 1 \"i  := 0\"\n", "\"i  :="},
		{"edge 0 1 \"i := 0\"\n", "edge 0 1 skip\n", "skip"},
		{"edge 0 1 \"i := 0\"\n", "edge 0 \"skip\"\n", "\"skip"},
		{"edge 0 1 \"i := 0\"\n", "edge 0 1048577 \"skip\"\n", "1048577"},
		{"edge 0 1 \"i := 0\"\n", "edge 0 1 \"skip\" x\n", "x\nedge"},
		{"edge 0 1 \"i := 0\"\n", "edge 0 1\n", "\nedge 1 2"},
		{"edge 0 1 \"i := 0\"\n", "edge 0 1 \"i := 0\"\npoint 6 f a 1\n", "point 6"},
		{"edge 0 1 \"i := 0\"\n", "edge 0 1 \"i := 0\"\nfirst all\n", "first all\nedge"},
		{"order \"0 (1 2) 3 4\"\n", "order \"0  (1 2) 3 4\"\n", "\"0  (1"},
		{"order \"0 (1 2) 3 4\"\n", "order 0\n", "0\nfirst"},
		{"order \"0 (1 2) 3 4\"\n", "order\n", "\nfirst"},
		{"order \"0 (1 2) 3 4\"\n", "order \"0\" \"1\"\n", "\"1\""},
		{"order \"0 (1 2) 3 4\"\n", "", "first all"},
		{"order \"0 (1 2) 3 4\"\n", "order \"0 (1 2) 3 4\"\norder \"0\"\n", "order \"0\"\n"},
		{"first all\n", "first\n", "\nzone 0"},
		{"first all\n", "first all all\n", "all\nzone"},
		{"first all\n", "first none all\n", "all\nzone"},
		{"first all\n", "first i<=3 all\n", "all\nzone"},
		{"first all\n", "first i<=3 none\n", "none\nzone"},
		{"first all\n", "first \"all\"\n", "\"all"},
		{"first all\n", "first All\n", "All"},
		{"first all\n", "first i\n", "i\nzone"},
		{"first all\n", "first i<3\n", "i<3"},
		{"first all\n", "first x<=3\n", "x<=3"},
		{"first all\n", "first <3\n", "<3"},
		{"first all\n", "first i--n<=3\n", "i--n"},
		{"first all\n", "first -i-n<=3\n", "-i-n"},
		{"first all\n", "first i<=\n", "i<=\n"},
		{"first all\n", "first i<=-\n", "i<=-\n"},
		{"first all\n", "first i<=+3\n", "i<=+3"},
		{"first all\n", "first i<=--3\n", "i<=--3"},
		{"first all\n", "first i<=3x\n", "i<=3x"},
		{"first all\n", "first i<=inf\n", "i<=inf"},
		{"first all\n", "first i<=00\n", "i<=00"},
		{"first all\n", "first i<=-0\n", "i<=-0"},
		{"first all\n", "first i<=-00\n", "i<=-00"},
		{"first all\n", "first i<=007\n", "i<=007"},
		{"first all\n", "first i<=-01\n", "i<=-01"},
		{"first all\n", "first i<=0-1\n", "i<=0-1"},
		{"first all\n", "first i<=00000000000000010\n", "i<=0000"},  // 17 bytes
		{"first all\n", "first i<=-0000000000000000\n", "i<=-0000"}, // 17 bytes
		{"first all\n", "first i<=010 x\n", "i<=010"},
		{"first all\n", "first n<=3 i-n<=03\n", "i-n<=03"},
		{"zone 1 -i<=0 i<=10", "zone 1 -i<=00 i<=10", "-i<=00"},
		{"zone 1 -i<=0 i<=10", "zone 1 -i<=-0 i<=10", "-i<=-0"},
		{"zone 1 -i<=0 i<=10", "zone 1 -i<=0 i<=010", "i<=010"},
		{"zone 3 -i<=-10 i<=10", "zone 3 -i<=-010 i<=10", "-i<=-010"},
		{"first all\n", "first i<=3<=4\n", "i<=3<="},
		{"first all\n", "first i<=100000000000000000\n", "i<=1000"},  // 18 bytes
		{"first all\n", "first i<=-10000000000000000\n", "i<=-1000"}, // 18 bytes
		{"first all\n", "first i<=3 \"i\"\n", "\"i\"\n"},
		{"zone 0 all\n", "zone 1 all\n", "1 all"},
		{"zone 0 all\n", "zone all\n", "all\nzone 1"},
		{"zone 0 all\n", "zone 0\n", "\nzone 1"},
		{"zone 2 -i", "zone 3 -i", "3 -i"},
		{"zone 5 none\n", "zone 5 none\nedge 0 1 \"skip\"\n", "edge 0 1 \"skip"},
		{"alarm diff may", "alarm lower1 may", "lower1"},
		{"alarm diff may", "alarm may diff", "may diff"},
		{"alarm diff may", "alarm 1 may", "1 may"},
		{"alarm diff may last", "alarm diff maybe last", "maybe"},
		{"alarm diff may", "alarm diff \"may\"", "\"may"},
		{"alarm diff may last", "alarm diff may \"last\"", "\"last"},
		{"alarm diff may last lib/b.w 1048576", "alarm diff may last lib/b.w 1048577", "1048577"},
		{"alarm diff may last lib/b.w 1048576", "alarm diff may last lib/b.w", "\"i - n"},
		{"1048576 \"i - n <= 0\"\nalarm", "1048576 i\nalarm", "i\nalarm"},
		{"1048576 \"i - n <= 0\"\nalarm", "1048576 \"i - n <= 0\" x\nalarm", "x\nalarm"},
		{"alarm diff may", "zones 6 all\nalarm diff may", "zones"},
		{"mark 0000000000000003 \"\"\n", "mark 000000000000003 \"\"\n", "000000000000003"},
		{"mark 0000000000000003 \"\"\n", "mark 000000000000000A \"\"\n", "000000000000000A"},
		{"mark 0000000000000003 \"\"\n", "mark \"0000000000000003\" \"\"\n", "\"000"},
		{"mark 0000000000000003 \"\"\n", "mark 0000000000000003\n", "\nmark abc"},
		{"mark 0000000000000003 \"\"\n", "mark 0000000000000003 note\n", "note"},
		{"mark 0000000000000003 \"\"\n", "mark 0000000000000003 \"\" \"\"\n", "\"\"\nmark"},
		{"mark abcdef0123456789", "alarm diff may f a 1 \"x\"\nmark abcdef0123456789", "alarm diff may f a"},
		{"end\n", "end end\n", "end\n"},
		{"end\n", "end\nend\n", "end\n"},
		{"end\n", "end\nmark 0000000000000003 \"\"\n", "mark 0000000000000003 \"\"\n"},
		{"end\n", "stop\n", "stop"},
	} {
		at := strings.Index(want, c.old)
		if at < 0 {
			t.Fatalf("%q is not there", c.old)
		}
		s := want[:at] + c.new + want[at+len(c.old):]
		// The mark is looked for from the change on, behind what both have in common where it stands twice.
		from := at
		if strings.HasPrefix(c.new, c.old) || strings.HasPrefix(c.new, strings.TrimSuffix(c.old, "\n")+" ") {
			from += len(c.old)
		}
		if c.mark == "end\n" || strings.HasPrefix(c.mark, "mark 0") {
			from = strings.LastIndex(s, c.mark)
		}
		k := strings.Index(s[from:], c.mark)
		if k < 0 {
			t.Fatalf("%q is not there behind %q", c.mark, c.new)
		}
		k += from
		line, col := 1+strings.Count(s[:k], "\n"), k-strings.LastIndex(s[:k], "\n")
		r, l, n, e := text.Get(s)
		if e != api.ErrForm || l != line || n != col || !result.Same(r, api.Result{}) {
			t.Errorf("%q for %q: %d at %d, %d, want %d, %d", c.new, c.old, e, l, n, line, col)
		}
	}
}

// Where lines are missing at the end, it is the byte behind the last line.
func TestMissing(t *testing.T) {
	lines := strings.SplitAfter(want, "\n")
	lines = lines[:len(lines)-1]
	for n := range lines {
		s := strings.Join(lines[:n], "")
		if r, l, c, e := text.Get(s); e != api.ErrForm || l != n+1 || c != 1 || !result.Same(r, api.Result{}) {
			t.Errorf("%d lines: %d at %d, %d", n, e, l, c)
		}
	}
}

// How many lines of each kind there are is told behind the last line; which may come where, at the first word that may not.
func TestLines(t *testing.T) {
	const (
		head  = "airx 1\nprogram p\nvars x\n"
		point = "point 0 f g 1\n"
		edge  = "edge 0 0 \"skip\"\n"
		order = "order \"0\"\n"
		first = "first all\n"
		zone  = "zone 0 all\n"
		alarm = "alarm upper may f g 1 \"x <= 3\"\n"
		mark  = "mark 0000000000000007 \"\"\n"
		end   = "end\n"
	)
	many := func(n int, line func(i int) string) string {
		var b strings.Builder
		for i := range n {
			b.WriteString(line(i))
		}
		return b.String()
	}
	points := func(n int) string {
		return many(n, func(i int) string { return "point " + strconv.Itoa(i) + " f g 1\n" })
	}
	zones := func(n int) string {
		return many(n, func(i int) string { return "zone " + strconv.Itoa(i) + " all\n" })
	}
	marks := func(n int) string {
		return many(n, func(i int) string { return "mark 000000000000" + strconv.Itoa(1000+i) + " \"\"\n" })
	}
	for k, c := range []struct {
		rest string
		bad  int // the line of rest at which the fault is, from 1 on; 0, if there is none
		e    api.Errno
	}{
		{point + order + first + zone + end, 0, api.OK},
		{point + edge + "order \"(0)\"\n" + first + zone + mark + end, 0, api.OK},
		{order + first + zone + end, 5, api.ErrProg},
		{"order \"\"\n" + first + end, 4, api.ErrProg},
		{edge + order + first + end, 5, api.ErrProg},
		{edge + edge + order + first + zone + alarm + mark + end, 9, api.ErrProg},
		{point + order + first + end, 5, api.ErrZone},
		{point + order + first + alarm + end, 6, api.ErrZone},
		{point + order + first + mark + end, 6, api.ErrZone},
		{point + order + first + alarm + alarm + mark + mark + end, 9, api.ErrZone},
		{point + order + first + zone + "zone 1 all\n" + end, 7, api.ErrZone},
		{point + "point 1 f g 2\n" + order + first + zone + end, 7, api.ErrZone},
		{point + order + first + zone + alarm + end, 7, api.ErrAlarm},
		{point + order + first + zone + mark + mark + end, 8, api.ErrMark},
		{points(128) + order + first + zones(128) + end, 0, api.OK},
		{points(129) + order + first + zones(129) + end, 129 + 2 + 129 + 2, api.ErrProg},
		{point + strings.Repeat(edge, 256) + "order \"(0)\"\n" + first + zone + end, 0, api.OK},
		{point + strings.Repeat(edge, 257) + "order \"(0)\"\n" + first + zone + end, 263, api.ErrProg},
		{point + order + first + zone + strings.Repeat(alarm, 257) + end, 263, api.ErrAlarm},
		{point + order + first + zone + marks(1024) + end, 0, api.OK},
		{point + order + first + zone + marks(1025) + end, 1031, api.ErrMark},
		{"", 1, api.ErrForm},
		{first, 1, api.ErrForm},
		{zone, 1, api.ErrForm},
		{alarm, 1, api.ErrForm},
		{mark, 1, api.ErrForm},
		{end, 1, api.ErrForm},
		{"vars x\n", 1, api.ErrForm},
		{point, 2, api.ErrForm},
		{point + first, 2, api.ErrForm},
		{point + end, 2, api.ErrForm},
		{edge, 2, api.ErrForm},
		{edge + point, 2, api.ErrForm},
		{edge + first, 2, api.ErrForm},
		{order, 2, api.ErrForm},
		{order + point, 2, api.ErrForm},
		{order + edge, 2, api.ErrForm},
		{order + order, 2, api.ErrForm},
		{order + zone, 2, api.ErrForm},
		{order + alarm, 2, api.ErrForm},
		{order + mark, 2, api.ErrForm},
		{order + end, 2, api.ErrForm},
		{order + first, 3, api.ErrForm},
		{order + first + first, 3, api.ErrForm},
		{order + first + point, 3, api.ErrForm},
		{order + first + edge, 3, api.ErrForm},
		{order + first + order, 3, api.ErrForm},
		{order + first + alarm, 4, api.ErrForm},
		{order + first + alarm + zone, 4, api.ErrForm},
		{order + first + mark, 4, api.ErrForm},
		{order + first + mark + zone, 4, api.ErrForm},
		{order + first + mark + alarm, 4, api.ErrForm},
		{order + first + end + zone, 4, api.ErrForm},
		{order + first + end + end, 4, api.ErrForm},
	} {
		line, col := 3+c.bad, 1
		if c.e == api.OK {
			line, col = 3+strings.Count(c.rest, "\n"), 0
		}
		if r, l, n, e := text.Get(head + c.rest); e != c.e || l != line || n != col || e != api.OK && !result.Same(r, api.Result{}) {
			t.Errorf("%d: %.60q: %d at %d, %d, want %d at %d, %d", k, c.rest, e, l, n, c.e, line, col)
		}
	}
}

func TestLexed(t *testing.T) {
	for _, c := range []struct {
		s         string
		line, col int
		e         api.Errno
	}{
		{want[:len(want)-1], 29, 4, api.ErrLex},
		{strings.Replace(want, "vars i n", "vars i  n", 1), 3, 8, api.ErrLex},
		{"wrong\n" + want + "\n", 31, 1, api.ErrLex},
		{strings.Repeat("a", api.MaxSource) + "\n", 0, 0, api.ErrLong},
	} {
		if r, l, n, e := text.Get(c.s); e != c.e || l != c.line || n != c.col || !result.Same(r, api.Result{}) {
			t.Errorf("%.20q: %d at %d, %d, want %d at %d, %d", c.s, e, l, n, c.e, c.line, c.col)
		}
	}
}

// What can be read, but is not right, is what result.Check tells, behind the last line.
func TestNotRight(t *testing.T) {
	for _, c := range []struct {
		old, new string
		e        api.Errno
	}{
		{"program count", "program 1count", api.ErrProg},
		{"program count", "program <=", api.ErrProg},
		{"main a.w 1\n", "main /a.w 1\n", api.ErrProg},
		{"main a.w 1\n", "main a.w 0\n", api.ErrProg},
		{"edge 0 1 ", "edge 0 6 ", api.ErrProg},
		{"edge 0 1 ", "edge 1048576 1 ", api.ErrProg},
		{"order \"0 (1 2) 3 4\"", "order \"0 1 2 3 4\"", api.ErrOrder},
		{"order \"0 (1 2) 3 4\"", "order \"\"", api.ErrOrder},
		{"zone 0 all", "zone 0 none", api.ErrSound},
		{"zone 2 -i<=0 i<=9 i-n<=1099511627785", "zone 2 -i<=0 i<=8 i-n<=1099511627784", api.ErrSound},
		{"zone 1 -i<=0 i<=10", "zone 1 -i<=0 -i<=5 i<=10", api.ErrSound}, // the later one counts
		{"zone 5 none", "zone 5 all", api.OK},
		{"alarm diff may", "alarm upper may", api.ErrAlarm},
		{"alarm diff may", "alarm diff must", api.ErrAlarm},
		{"alarm diff may last lib/b.w 1048576", "alarm diff may last lib/b.w 9", api.ErrAlarm},
		{"\"-i <= -11\"\nmark", "\"-i <=  -11\"\nmark", api.ErrAlarm},
		{"mark 0000000000000003", "mark ffffffffffffffff", api.ErrMark},
		{"mark 0000000000000003 \"\"", "mark 0000000000000003 \"" + strings.Repeat("x", 65) + "\"", api.ErrMark},
	} {
		s := strings.Replace(want, c.old, c.new, 1)
		if s == want {
			t.Fatalf("%q is not there", c.old)
		}
		line, col := 30, 1
		if c.e == api.OK {
			line, col = 29, 0
		}
		if r, l, n, e := text.Get(s); e != c.e || l != line || n != col || e != api.OK && !result.Same(r, api.Result{}) {
			t.Errorf("%q: %d at %d, %d, want %d", c.new, e, l, n, c.e)
		}
	}
}

// A zone's bounds are those that are told, and else those of all valuations: nothing is made of them, also where that is no zone.
func TestZoneAsTold(t *testing.T) {
	for _, c := range []struct {
		old, new string
		e        api.Errno
	}{
		{"first all", "first i<=10", api.ErrInit},
		{"first all", "first i<=10 i-n<=1099511627786", api.OK},
		{"first all", "first i<=10 i-n<=1099511627787", api.ErrInit},
		{"first all", "first i-n<=2 n<=5", api.ErrInit}, // i <= 7 follows
		{"first all", "first i<=10 -i<=-11", api.ErrInit},
		{"first all", "first i<=1099511627777", api.ErrInit},
		{"first all", "first i-n<=2199023255553", api.ErrInit},
		{"first all", "first none", api.OK},
		{"zone 0 all", "zone 0 i-n<=2199023255553", api.ErrZone},
		{"zone 0 all", "zone 0 -n<=99999999999999999", api.ErrZone}, // 17 bytes
		{"zone 0 all", "zone 0 -n<=-9999999999999999", api.ErrZone}, // 17 bytes
		{"zone 1 -i<=0 i<=10 i-n<=1099511627786", "zone 1 -i<=0 i<=10", api.ErrZone},
		{" n-i<=1099511627776\nzone 2", "\nzone 2", api.ErrZone},
		{"zone 1 -i<=0 i<=10 i-n<=1099511627786", "zone 1 -i<=0 i<=10 i-n<=1099511627787", api.ErrZone},
		{"zone 1 -i<=0 i<=10 i-n<=1099511627786", "zone 1 -i<=0 i<=10 i-n<=99999999999999999", api.ErrZone},
		{"zone 2 -i<=0 i<=9", "zone 2 -i<=0 i<=8", api.ErrZone},
		{"zone 4 -i<=-10 i<=10 i-n<=1099511627786", "zone 4 -i<=-10 i<=10 i-n<=-1", api.ErrZone},
		{"zone 4 -i<=-10 i<=10 ", "zone 4 i<=-11 -i<=10 ", api.ErrZone},
		{"zone 5 none", "zone 5 i<=-3 -i<=-3", api.ErrZone},
		{"zone 5 none", "zone 5 i<=-3 i-n<=1099511627773", api.OK},
		{"zone 5 none", "zone 5 i<=-3", api.ErrZone},
		// What result.Check tells first is told.
		{"first all\nzone 0 all", "first i<=10\nzone 0 i<=10", api.ErrInit},
		{"\"0 (1 2) 3 4\"\nfirst all\nzone 0 all", "\"\"\nfirst all\nzone 0 i<=10", api.ErrOrder},
		{"\"0 (1 2) 3 4\"\nfirst all", "\"\"\nfirst i<=10", api.ErrInit},
	} {
		s := strings.Replace(want, c.old, c.new, 1)
		if s == want {
			t.Fatalf("%q is not there", c.old)
		}
		line, col := 30, 1
		if c.e == api.OK {
			line, col = 29, 0
		}
		r, l, n, e := text.Get(s)
		if e != c.e || l != line || n != col || e != api.OK && !result.Same(r, api.Result{}) {
			t.Errorf("%q: %d at %d, %d, want %d", c.new, e, l, n, c.e)
		}
		if back, _ := text.Put(r); e == api.OK && back != s {
			t.Errorf("%q is put as %q", s, back)
		}
	}
}

// What is right, but is not written as it must be, is wrong where it first is not.
func TestNotWritten(t *testing.T) {
	for _, c := range []struct{ old, new, mark string }{
		{"zone 1 -i<=0 i<=10", "zone 1 i<=10 -i<=0", "i<=10 -i"},
		{"zone 1 -i<=0 i<=10", "zone 1 -i<=0 -i<=0 i<=10", "-i<=0 i<=10"},
		{"zone 1 -i<=0 i<=10", "zone 1 -i<=5 -i<=0 i<=10", "5 -i"}, // the later one counts
		{"zone 1 -i<=0 i<=10", "zone 1 -i<=0 n<=1099511627776 i<=10", "n<=1"},
		{"zone 0 all", "zone 0 i<=1099511627776", "i<=1099511627776"},
		{"zone 0 all", "zone 0 i-n<=2199023255552", "i-n<=2199023255552"},
		{"zone 5 none", "zone 5 i<=-3 i<=1099511627776", "i<=-3"},
		{"first all", "first n-i<=2199023255552", "n-i<=2199023255552"},
	} {
		s := strings.Replace(want, c.old, c.new, 1)
		if s == want {
			t.Fatalf("%q is not there", c.old)
		}
		at := strings.Index(want, c.old)
		line, col := place(s[at:], c.mark)
		if line == 1 {
			col += at - strings.LastIndex(s[:at], "\n") - 1
		}
		line += strings.Count(s[:at], "\n")
		if r, l, n, e := text.Get(s); e != api.ErrForm || l != line || n != col || !result.Same(r, api.Result{}) {
			t.Errorf("%q: %d at %d, %d, want %d, %d", c.new, e, l, n, line, col)
		}
	}
}

// What can not stand there counts ahead of what is not right, also behind the end.
func TestBehindEnd(t *testing.T) {
	s := strings.Replace(want, "program count", "program 1count", 1)
	for _, more := range []string{"end\n", "mark 0000000000000009 \"\"\n", "\"\"\n"} {
		if r, l, n, e := text.Get(s + more); e != api.ErrForm || l != 30 || n != 1 || !result.Same(r, api.Result{}) {
			t.Errorf("%q behind the end: %d at %d, %d", more, e, l, n)
		}
	}
}

func statement(r *rand.Rand) api.Stmt {
	for {
		s := api.Stmt{Kind: 1 + r.Intn(5), X: r.Intn(3), Y: r.Intn(3), C: r.Intn(9) - 4}
		switch s.Kind {
		case api.StSkip:
			s = api.Stmt{Kind: api.StSkip}
		case api.StAny:
			s.Y, s.D = 0, s.C+r.Intn(5)
		}
		if prog.Right(s, 2) {
			return s
		}
	}
}

// By bytes and by text the same results are told, and the text is the same again.
func TestBothWays(t *testing.T) {
	r := rand.New(rand.NewSource(1))
	for range 300 {
		n := 1 + r.Intn(6)
		p := api.Prog{Name: "p", Vars: []string{"x", "all"}}
		for i := range n {
			p.Spots = append(p.Spots, spot([]string{"f", "g"}[r.Intn(2)], "a", i+1))
		}
		for range r.Intn(3 * n) {
			p.Edges = append(p.Edges, edge(r.Intn(n), r.Intn(n), statement(r)))
		}
		var marks []api.Mark
		for i := range r.Intn(5) {
			marks = append(marks, api.Mark{Finger: uint64(i)<<60 + r.Uint64()>>10, Note: strings.Repeat("\\\"", r.Intn(3))})
		}
		first, _ := zone.Limit(all(2), 1, 2, r.Intn(5)-8)
		x, e := result.Make(p, first, marks)
		if e != api.OK {
			t.Fatal(e)
		}
		if r.Intn(2) == 0 {
			x.Zones = slices.Repeat([]api.Zone{all(2)}, n)
			x.Alarms, _ = alarm.Of(x.Prog, x.Zones)
		}
		s, e := text.Put(x)
		got, lines, col, e2 := text.Get(s)
		if e != api.OK || e2 != api.OK || !result.Same(got, x) || lines != strings.Count(s, "\n") || col != 0 {
			t.Fatalf("%v is got as %v, %d, %d", x, got, e, e2)
		}
		b, _ := bin.Put(x)
		if byBytes, _, e := bin.Get(b); e != api.OK || !result.Same(byBytes, got) {
			t.Fatalf("by bytes: %v, %d", byBytes, e)
		}
		// One byte that is another one is never got as something else than is written.
		k := r.Intn(len(s))
		turned := s[:k] + string([]byte{s[k] ^ byte(1+r.Intn(30))}) + s[k+1:]
		if got, _, _, e := text.Get(turned); e == api.OK {
			if back, _ := text.Put(got); back != turned {
				t.Fatalf("%q is got", turned)
			}
		}
	}
}

// The greatest result there can be has a text, too.
func TestGreatest(t *testing.T) {
	p := api.Prog{Name: strings.Repeat("p", 32)}
	for i := range 8 {
		p.Vars = append(p.Vars, strings.Repeat("v", 31)+string(rune('a'+i)))
	}
	for i := range 128 {
		p.Spots = append(p.Spots, spot(strings.Repeat("f", 32), strings.Repeat("f", 64), i+1))
	}
	for i := range 256 {
		p.Edges = append(p.Edges, edge(i%128, (i+1)%128, api.Stmt{Kind: api.StCheck, X: i%8 + 1, Y: (i+1)%8 + 1, C: 1 - api.MaxVal}))
	}
	var marks []api.Mark
	for i := range 1024 {
		marks = append(marks, api.Mark{Finger: uint64(i), Note: strings.Repeat("\"", 64)})
	}
	m := make([]int, 81)
	for i := range 9 {
		for j := range 9 {
			m[9*i+j] = (j - i) * -1000000
		}
	}
	first, e := dbm.Close(8, m)
	if e != api.OK || dbm.Empty(first) {
		t.Fatal("no first zone")
	}
	r, e := result.Make(p, first, marks)
	if e != api.OK {
		t.Fatal(e)
	}
	s, e := text.Put(r)
	got, _, _, e2 := text.Get(s)
	if e != api.OK || e2 != api.OK || !result.Same(got, r) {
		t.Error(e, e2)
	}
}
