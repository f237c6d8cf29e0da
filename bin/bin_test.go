package bin_test

import (
	"bytes"
	"math"
	"math/rand"
	"slices"
	"strings"
	"testing"

	"warrantor/alarm"
	"warrantor/api"
	"warrantor/bin"
	"warrantor/cur"
	"warrantor/dbm"
	"warrantor/prog"
	"warrantor/result"
	"warrantor/sect"
	"warrantor/strs"
	"warrantor/zone"
)

func edge(from, to int, s api.Stmt) api.Edge { return api.Edge{From: from, To: to, Stmt: s} }

func spot(fn, file string, line int) api.Spot { return api.Spot{Func: fn, File: file, Line: line} }

func all(n int) api.Zone {
	z, _ := dbm.All(n)
	return z
}

func loop() api.Prog {
	return api.Prog{
		Name:  "count",
		Vars:  []string{"i", "n"},
		Spots: []api.Spot{spot("main", "a.w", 1), spot("main", "a.w", 200), spot("main", "a.w", 3), spot("last", "b.w", 1<<20), spot("none", "b.w", 5)},
		Edges: []api.Edge{
			edge(0, 1, api.Stmt{Kind: api.StLet, X: 1}),
			edge(1, 2, api.Stmt{Kind: api.StLimit, X: 1, C: 9}),
			edge(2, 1, api.Stmt{Kind: api.StLet, X: 1, Y: 1, C: 1}),
			edge(1, 3, api.Stmt{Kind: api.StLimit, Y: 1, C: -10}),
			edge(3, 3, api.Stmt{Kind: api.StCheck, X: 1, C: 10}),
			edge(3, 3, api.Stmt{Kind: api.StCheck, X: 1, Y: 2, C: 0}),
			edge(3, 3, api.Stmt{Kind: api.StCheck, X: 1, C: 4}),
			edge(3, 3, api.Stmt{Kind: api.StAny, X: 2, C: -api.MaxVal, D: 5}),
		},
	}
}

func made() api.Result {
	r, e := result.Make(loop(), all(2), []api.Mark{{Finger: 3}, {Finger: 200, Note: "known"}, {Finger: math.MaxUint64, Note: "main"}})
	if e != api.OK {
		panic(e)
	}
	return r
}

// bodies are the six bodies of any result, right or not, by a table of texts, as the document says them.
func bodies(r api.Result, texts []string) [][]byte {
	table, _ := strs.Put(texts)
	var pens [5]*cur.Pen
	for i := range pens {
		pens[i] = cur.New()
	}
	text := func(p *cur.Pen, s string) {
		at, _ := strs.Find(texts, s)
		p.U(uint64(at))
	}
	numbers := func(p *cur.Pen, l ...int) {
		for _, n := range l {
			p.U(uint64(n))
		}
	}
	p := pens[0]
	text(p, r.Prog.Name)
	numbers(p, len(r.Prog.Vars))
	for _, v := range r.Prog.Vars {
		text(p, v)
	}
	numbers(p, len(r.Prog.Spots))
	for _, s := range r.Prog.Spots {
		text(p, s.Func)
		text(p, s.File)
		numbers(p, s.Line)
	}
	numbers(p, len(r.Prog.Edges))
	for _, e := range r.Prog.Edges {
		numbers(p, e.From, e.To, e.Stmt.Kind, e.Stmt.X, e.Stmt.Y)
		p.I(int64(e.Stmt.C))
		p.I(int64(e.Stmt.D))
	}
	numbers(pens[1], len(r.Wto.Points))
	numbers(pens[1], r.Wto.Points...)
	numbers(pens[1], r.Wto.Spans...)
	zone := func(z api.Zone) {
		pens[2].Byte(min(len(z.M), 1))
		for _, n := range z.M {
			pens[2].I(int64(n))
		}
	}
	zone(r.First)
	numbers(pens[2], len(r.Zones))
	for _, z := range r.Zones {
		zone(z)
	}
	p = pens[3]
	numbers(p, len(r.Alarms))
	for _, a := range r.Alarms {
		numbers(p, a.Kind, a.Sev)
		text(p, a.Func)
		text(p, a.File)
		numbers(p, a.Line)
		text(p, a.Expr)
	}
	p = pens[4]
	numbers(p, len(r.Marks))
	ahead := uint64(0)
	for _, m := range r.Marks {
		p.U(m.Finger - ahead)
		text(p, m.Note)
		ahead = m.Finger
	}
	l := [][]byte{table}
	for _, p := range pens {
		l = append(l, p.Bytes())
	}
	return l
}

// join makes sections of bodies, with the tags from 1 on.
func join(l [][]byte) []byte {
	var s []api.Sect
	for i, b := range l {
		s = append(s, api.Sect{Tag: i + 1, Body: b})
	}
	b, e := sect.Put(s)
	if e != api.OK {
		panic(e)
	}
	return b
}

func plain(r api.Result) []byte { return join(bodies(r, result.Texts(r))) }

// start is where the section of a tag begins.
func start(l [][]byte, tag int) int { return len(join(l[:tag-1])) }

func TestPut(t *testing.T) {
	r := made()
	b, e := bin.Put(r)
	if e != api.OK || !bytes.Equal(b, plain(r)) || !bytes.HasPrefix(b, []byte("AIRX\x01\x01")) {
		t.Errorf("Put: %d", e)
	}
	got, n, e := bin.Get(b)
	if e != api.OK || n != len(b) || !result.Same(got, r) {
		t.Errorf("Get: %v, %d, %d", got, n, e)
	}
	for k, c := range []struct {
		change func(*api.Result)
		e      api.Errno
	}{
		{func(r *api.Result) { r.Prog.Name = "" }, api.ErrProg},
		{func(r *api.Result) { r.First.Vars = 1 }, api.ErrInit},
		{func(r *api.Result) { r.Wto = api.Wto{} }, api.ErrOrder},
		{func(r *api.Result) { r.Zones[2] = api.Zone{Vars: 2} }, api.ErrSound},
		{func(r *api.Result) { r.Alarms = nil }, api.ErrAlarm},
		{func(r *api.Result) { r.Marks[0].Finger = 999 }, api.ErrMark},
	} {
		r := made()
		c.change(&r)
		if b, e := bin.Put(r); e != c.e || len(b) != 0 {
			t.Errorf("%d: %d bytes, %d, want %d", k, len(b), e, c.e)
		}
	}
}

// got asks for an error at a place.
func got(t *testing.T, what string, b []byte, at int, e api.Errno) {
	t.Helper()
	r, n, err := bin.Get(b)
	if err != e || n != at || !result.Same(r, api.Result{}) {
		t.Errorf("%s: %d at %d, want %d at %d", what, err, n, e, at)
	}
}

func TestGetSections(t *testing.T) {
	r := made()
	l := bodies(r, result.Texts(r))
	b := join(l)
	got(t, "nothing", nil, 0, api.ErrHead)
	got(t, "a head", b[:3], 3, api.ErrHead)
	got(t, "cut off", b[:len(b)-1], start(l, 6), api.ErrShort)
	got(t, "no sections", b[:5], 5, api.ErrTag)
	for tag := 2; tag <= 6; tag++ {
		got(t, "cut between", b[:start(l, tag)], start(l, tag), api.ErrTag)
	}
	turned := bytes.Clone(b)
	turned[start(l, 3)+3] ^= 1
	got(t, "turned", turned, start(l, 3), api.ErrSum)
	sections := func(tags ...int) []byte {
		var s []api.Sect
		for i, tag := range tags {
			s = append(s, api.Sect{Tag: tag, Body: l[i%6]})
		}
		b, _ := sect.Put(s)
		return b
	}
	got(t, "without 3", sections(1, 2, 4, 5, 6), start(l, 3), api.ErrTag)
	got(t, "without 1", sections(2, 3), 5, api.ErrTag)
	got(t, "one more", sections(1, 2, 3, 4, 5, 6, 7), len(b), api.ErrTag)
	got(t, "another last one", sections(1, 2, 3, 4, 5, 9), start(l, 6), api.ErrTag)
	got(t, "two more", sections(1, 2, 3, 4, 5, 6, 7, 8), len(b), api.ErrTag)
	// Tags count ahead of what stands in the sections.
	bad := slices.Clone(l)
	bad[0] = []byte{9}
	got(t, "wrong, and one more", join(append(bad, nil)), start(append(bad, nil), 7), api.ErrTag)
}

// with is a result's bytes, one body of which is another one.
func with(tag int, body []byte) ([]byte, int) {
	r := made()
	l := bodies(r, result.Texts(r))
	at := start(l, tag)
	l[tag-1] = body
	return join(l), at
}

func TestGetWrong(t *testing.T) {
	r := made()
	l := bodies(r, result.Texts(r))
	texts := len(result.Texts(r))
	pen := func(write func(*cur.Pen)) []byte {
		p := cur.New()
		write(p)
		return p.Bytes()
	}
	numbers := func(ns ...uint64) []byte {
		return pen(func(p *cur.Pen) {
			for _, n := range ns {
				p.U(n)
			}
		})
	}
	zeros := func(n int) []byte { return make([]byte, n) }
	full := append([]byte{1}, zeros(9)...)
	for k, c := range []struct {
		tag  int
		body []byte
		e    api.Errno
	}{
		{1, nil, api.ErrShort},
		{1, []byte{2, 0, 1, 'b', 0, 1, 'a'}, api.ErrStrs},
		{1, append(slices.Clone(l[0]), 0), api.ErrLong},
		{1, []byte{128, 0}, api.ErrLeb},
		{1, []byte{0}, api.OK}, // a table without texts: then there is no place in it
		{2, nil, api.ErrShort},
		{2, numbers(uint64(texts)), api.ErrLong},
		{2, []byte{128, 0}, api.ErrLeb},
		{2, numbers(0, 9), api.ErrLong},
		{2, numbers(0, 8), api.ErrShort},
		{2, numbers(0, 0, 129), api.ErrLong},
		{2, numbers(0, 0, 128), api.ErrShort},
		{2, numbers(0, 0, 1, 0, uint64(texts)), api.ErrLong},
		{2, numbers(0, 0, 1, 0, 0, 1<<20+1), api.ErrLong},
		{2, numbers(0, 0, 1, 0, 0, 1<<20), api.ErrShort},
		{2, numbers(0, 0, 1, 0, 0, 1, 257), api.ErrLong},
		{2, numbers(0, 0, 1, 0, 0, 1, 256), api.ErrShort},
		{2, numbers(0, 0, 1, 0, 0, 1, 1, 1<<20+1), api.ErrLong},
		{2, numbers(0, 0, 1, 0, 0, 1, 1, 0, 1<<20+1), api.ErrLong},
		{2, numbers(0, 0, 1, 0, 0, 1, 1, 0, 0, 1<<20+1), api.ErrLong},
		{2, numbers(0, 0, 1, 0, 0, 1, 1, 0, 0, 0, 1<<20+1), api.ErrLong},
		{2, numbers(0, 0, 1, 0, 0, 1, 1, 0, 0, 0, 0, 1<<20+1), api.ErrLong},
		{2, numbers(0, 0, 1, 0, 0, 1, 1, 0, 0, 0, 0, 0, math.MaxUint64), api.ErrShort},
		{2, append(slices.Clone(l[1]), 0), api.ErrLong},
		{3, nil, api.ErrShort},
		{3, numbers(129), api.ErrLong},
		{3, numbers(128), api.ErrShort},
		{3, numbers(1, 1<<20+1), api.ErrLong},
		{3, numbers(1, 5, 1<<20+1), api.ErrLong},
		{3, numbers(2, 5, 6, 7), api.ErrShort},
		{3, numbers(1, 5, 0, 0), api.ErrLong},
		{4, nil, api.ErrShort},
		{4, []byte{2}, api.ErrForm},
		{4, []byte{255}, api.ErrForm},
		{4, []byte{1, 0, 0}, api.ErrShort},
		{4, append([]byte{1, 128, 0}, zeros(20)...), api.ErrLeb},
		{4, []byte{0}, api.ErrShort},
		{4, append([]byte{0}, numbers(129)...), api.ErrLong},
		{4, []byte{0, 1}, api.ErrShort},
		{4, []byte{0, 1, 3}, api.ErrForm},
		{4, slices.Concat(full, []byte{1}, full, []byte{0}), api.ErrLong},
		{4, slices.Concat(full, []byte{1}, full[:9]), api.ErrShort},
		{5, nil, api.ErrShort},
		{5, numbers(257), api.ErrLong},
		{5, numbers(256), api.ErrShort},
		{5, numbers(1, 1<<20+1), api.ErrLong},
		{5, numbers(1, 1, 1<<20+1), api.ErrLong},
		{5, numbers(1, 1, 1, uint64(texts)), api.ErrLong},
		{5, numbers(1, 1, 1, 0, uint64(texts)), api.ErrLong},
		{5, numbers(1, 1, 1, 0, 0, 1<<20+1), api.ErrLong},
		{5, numbers(1, 1, 1, 0, 0, 1, uint64(texts)), api.ErrLong},
		{5, numbers(0, 0), api.ErrLong},
		{6, nil, api.ErrShort},
		{6, numbers(1025), api.ErrLong},
		{6, numbers(1024), api.ErrShort},
		{6, numbers(1, 5, uint64(texts)), api.ErrLong},
		{6, []byte{1, 128, 0}, api.ErrLeb},
		{6, numbers(0, 0), api.ErrLong},
	} {
		b, at := with(c.tag, c.body)
		if c.e == api.OK {
			at, c.e = start(append([][]byte{c.body}, l[1:]...), 2), api.ErrLong
		}
		if _, n, e := bin.Get(b); e != c.e || n != at {
			t.Errorf("%d: %d at %d, want %d at %d", k, e, n, c.e, at)
		}
	}
	// The first section that can not be read counts.
	bad := slices.Clone(l)
	bad[5], bad[2] = nil, numbers(129)
	got(t, "two", join(bad), start(bad, 3), api.ErrLong)
}

// What can be read, but is not right, is what result.Check tells, at the end of all.
func TestGetNotRight(t *testing.T) {
	for k, c := range []struct {
		change func(*api.Result)
		e      api.Errno
	}{
		{func(r *api.Result) { r.Prog.Vars[1] = "i" }, api.ErrProg},
		{func(r *api.Result) { r.Prog.Edges[0].To = 1 << 20 }, api.ErrProg},
		{func(r *api.Result) { r.Prog.Edges[0].Stmt.C = math.MinInt }, api.ErrProg},
		{func(r *api.Result) { r.Prog.Spots = nil }, api.ErrProg},
		{func(r *api.Result) { r.First.M = make([]int, 9); r.First.M[1] = -1 }, api.ErrInit},
		{func(r *api.Result) { r.First.M = slices.Repeat([]int{math.MaxInt}, 9) }, api.ErrInit},
		{func(r *api.Result) { r.Wto.Points[0] = 3 }, api.ErrWto},
		{func(r *api.Result) { r.Wto.Spans[1] = 0 }, api.ErrOrder},
		{func(r *api.Result) { r.Zones = r.Zones[1:] }, api.ErrZone},
		{func(r *api.Result) { r.Zones[1].M[4] = 7 }, api.ErrZone},
		{func(r *api.Result) { r.Zones[2] = api.Zone{Vars: 2} }, api.ErrSound},
		{func(r *api.Result) { r.Alarms[0].Kind = 1 << 20 }, api.ErrAlarm},
		{func(r *api.Result) { r.Alarms = r.Alarms[:1] }, api.ErrAlarm},
		{func(r *api.Result) { r.Marks[1].Finger = 3 }, api.ErrMark},
		{func(r *api.Result) { r.Marks[2].Finger = 0 }, api.ErrMark}, // summed beyond the greatest number
	} {
		r := made()
		c.change(&r)
		b := plain(r)
		got(t, string(rune('a'+k)), b, len(b), c.e)
	}
}

// Bytes of a right result that are not written as they must be.
func TestGetForm(t *testing.T) {
	r := made()
	b := plain(r)
	for _, extra := range []string{"aaaa", "zzzz", "main2"} {
		c := join(bodies(r, strs.Of(append(result.Texts(r), extra))))
		at := 0
		for b[at] == c[at] {
			at++
		}
		got(t, extra, c, at, api.ErrForm)
	}
}

// Turned bits, and bytes that are left out or put in, are never got.
func TestTurned(t *testing.T) {
	b := plain(made())
	for i := range b {
		for _, turn := range []byte{1, 128, 255} {
			c := bytes.Clone(b)
			c[i] ^= turn
			if r, _, e := bin.Get(c); e == api.OK || !result.Same(r, api.Result{}) {
				t.Errorf("the byte %d turned by %d: %d", i, turn, e)
			}
		}
		if r, _, e := bin.Get(slices.Delete(bytes.Clone(b), i, i+1)); e == api.OK || !result.Same(r, api.Result{}) {
			t.Errorf("without the byte %d: %d", i, e)
		}
		if r, _, e := bin.Get(b[:i]); e == api.OK || !result.Same(r, api.Result{}) {
			t.Errorf("cut off at %d: %d", i, e)
		}
	}
	if _, _, e := bin.Get(append(bytes.Clone(b), 0)); e == api.OK {
		t.Error("a byte more is got")
	}
}

func statement(r *rand.Rand) api.Stmt {
	for {
		s := api.Stmt{Kind: 1 + r.Intn(5), X: r.Intn(3), Y: r.Intn(3), C: r.Intn(9) - 4}
		switch s.Kind {
		case api.StSkip:
			s = api.Stmt{Kind: api.StSkip}
		case api.StAny:
			s.Y, s.D = 0, s.C+r.Intn(5)
		}
		if prog.Right(s, 2) {
			return s
		}
	}
}

func TestBothWays(t *testing.T) {
	r := rand.New(rand.NewSource(1))
	for range 300 {
		n := 1 + r.Intn(6)
		p := api.Prog{Name: "p", Vars: []string{"x", "y"}}
		for i := range n {
			p.Spots = append(p.Spots, spot([]string{"f", "g"}[r.Intn(2)], "a", i+1))
		}
		for range r.Intn(3 * n) {
			p.Edges = append(p.Edges, edge(r.Intn(n), r.Intn(n), statement(r)))
		}
		var marks []api.Mark
		for i := range r.Intn(5) {
			marks = append(marks, api.Mark{Finger: uint64(i)<<60 + r.Uint64()>>10, Note: strings.Repeat("x", r.Intn(3))})
		}
		first, _ := zone.Limit(all(2), 1, 2, r.Intn(5))
		x, e := result.Make(p, first, marks)
		if e != api.OK {
			t.Fatal(e)
		}
		if len(x.Zones) > 1 && r.Intn(2) == 0 { // less may be known
			x.Zones[0] = all(2)
			x.Alarms, _ = alarm.Of(x.Prog, x.Zones)
		}
		b, e := bin.Put(x)
		if e != result.Check(x) {
			t.Fatal(e)
		}
		if e != api.OK {
			continue
		}
		got, size, e := bin.Get(b)
		if e != api.OK || size != len(b) || !result.Same(got, x) || !bytes.Equal(b, plain(x)) {
			t.Fatalf("%v is got as %v, %d", x, got, e)
		}
	}
}

// The greatest result there can be has bytes, too.
func TestGreatest(t *testing.T) {
	p := api.Prog{Name: strings.Repeat("p", 32)}
	for i := range 8 {
		p.Vars = append(p.Vars, strings.Repeat("v", 31)+string(rune('a'+i)))
	}
	for i := range 128 {
		p.Spots = append(p.Spots, spot("f"+string(rune('A'+i%26)), strings.Repeat("f", 64), i+1))
	}
	for i := range 256 {
		p.Edges = append(p.Edges, edge(i%128, (i+1)%128, api.Stmt{Kind: api.StCheck, X: i%8 + 1, Y: (i+1)%8 + 1, C: -i}))
	}
	var marks []api.Mark
	for i := range 1024 {
		marks = append(marks, api.Mark{Finger: uint64(i), Note: strings.Repeat("n", 60) + string(rune('a'+i%26)) + string(rune('a'+i/26%26)) + string(rune('a'+i/676))})
	}
	r, e := result.Make(p, all(8), marks)
	if e != api.OK {
		t.Fatal(e)
	}
	b, e := bin.Put(r)
	got, n, e2 := bin.Get(b)
	if e != api.OK || e2 != api.OK || n != len(b) || !result.Same(got, r) {
		t.Error(e, e2)
	}
}

func TestShares(t *testing.T) {
	b := plain(made())
	old := bytes.Clone(b)
	r, _, _ := bin.Get(b)
	clear(b)
	if !result.Same(r, made()) {
		t.Error("Get shares")
	}
	c, _ := bin.Put(r)
	if !bytes.Equal(c, old) {
		t.Error("Put tells others")
	}
	r.Zones[0].M[1] = 3
	if r.First.M[1] == 3 {
		t.Error("two zones are shared")
	}
}
