package base_test

import (
	"math"
	"math/rand"
	"slices"
	"strings"
	"testing"

	"warrantor/api"
	"warrantor/base"
	"warrantor/finger"
	"warrantor/result"
)

func alarmAt(line int, expr string) api.Alarm {
	return api.Alarm{Kind: api.AlUpper, Sev: api.SevMay, Func: "f", File: "a", Line: line, Expr: expr}
}

func rise(n int, step uint64, note string) []api.Mark {
	var l []api.Mark
	for i := range n {
		l = append(l, api.Mark{Finger: uint64(i) * step, Note: note})
	}
	return l
}

// bad are lists of marks that are no baselines.
func bad() [][]api.Mark {
	return [][]api.Mark{{{Finger: 1}, {Finger: 1}}, {{Finger: 2}, {Finger: 1}}, {{Finger: 1, Note: "\n"}}, {{Note: strings.Repeat("n", 65)}}, rise(1025, 1, "")}
}

// chance is a baseline of few fingerprints.
func chance(r *rand.Rand, from []uint64) []api.Mark {
	var l []api.Mark
	for _, f := range slices.Compact(slices.Sorted(slices.Values(from))) {
		if r.Intn(2) == 0 {
			l = append(l, api.Mark{Finger: f, Note: []string{"", "a", "b", "ab", "~"}[r.Intn(5)]})
		}
	}
	return l
}

func TestMatch(t *testing.T) {
	a := []api.Alarm{alarmAt(3, "i <= 1"), alarmAt(9, "i <= 1"), alarmAt(5, "n <= 1")}
	prints := finger.Of(a)
	one := []api.Mark{{Finger: prints[1], Note: "x"}, {Finger: 0, Note: "none"}}
	slices.SortFunc(one, func(x, y api.Mark) int {
		if x.Finger < y.Finger {
			return -1
		}
		return 1
	})
	s, e := base.Match(one, a)
	if e != api.OK || !slices.Equal(s.Known, a[1:2]) || !slices.Equal(s.Fresh, []api.Alarm{a[0], a[2]}) || !slices.Equal(s.Met, []api.Mark{{Finger: prints[1], Note: "x"}}) || !slices.Equal(s.Stale, []api.Mark{{Note: "none"}}) {
		t.Errorf("%v, %d", s, e)
	}
	for k, l := range bad() {
		if s, e := base.Match(l, a); e != api.ErrMark || len(s.Known)+len(s.Fresh)+len(s.Met)+len(s.Stale) != 0 {
			t.Errorf("%d: %v, %d", k, s, e)
		}
	}
	if s, e := base.Match(nil, nil); e != api.OK || len(s.Known)+len(s.Fresh)+len(s.Met)+len(s.Stale) != 0 {
		t.Error("of none:", s, e)
	}
	r := rand.New(rand.NewSource(1))
	for range 500 {
		var a []api.Alarm
		for range r.Intn(12) {
			a = append(a, alarmAt(1+r.Intn(5), []string{"i<=1", "i <= 1", "n <= 1"}[r.Intn(3)]))
		}
		prints := finger.Of(a)
		l := chance(r, append(slices.Clone(prints), 5, math.MaxUint64))
		var want api.Split
		for i, x := range a {
			if slices.ContainsFunc(l, func(m api.Mark) bool { return m.Finger == prints[i] }) {
				want.Known = append(want.Known, x)
			} else {
				want.Fresh = append(want.Fresh, x)
			}
		}
		for _, m := range l {
			if slices.Contains(prints, m.Finger) {
				want.Met = append(want.Met, m)
			} else {
				want.Stale = append(want.Stale, m)
			}
		}
		s, e := base.Match(l, a)
		if e != api.OK || !slices.Equal(s.Known, want.Known) || !slices.Equal(s.Fresh, want.Fresh) || !slices.Equal(s.Met, want.Met) || !slices.Equal(s.Stale, want.Stale) {
			t.Fatalf("Match(%v, %v) = %v, %d, want %v", l, a, s, e, want)
		}
		// Lines that move leave the split as it was, alarm by alarm.
		moved := slices.Clone(a)
		for i := range moved {
			moved[i].Line = moved[i].Line*3 + 20
		}
		m, _ := base.Match(l, moved)
		for i := range m.Known {
			if m.Known[i].Line != s.Known[i].Line*3+20 || m.Known[i].Expr != s.Known[i].Expr {
				t.Fatalf("moved: %v, %v", m, s)
			}
		}
		if len(m.Known) != len(s.Known) || len(m.Fresh) != len(s.Fresh) || !slices.Equal(m.Met, s.Met) || !slices.Equal(m.Stale, s.Stale) {
			t.Fatalf("moved: %v, %v", m, s)
		}
		// By the baseline of all of them all are known.
		of, e := base.Of(a, "note")
		m, e2 := base.Match(of, moved)
		if e != api.OK || e2 != api.OK || !slices.Equal(m.Known, moved) || len(m.Fresh)+len(m.Stale) != 0 || !slices.Equal(m.Met, of) {
			t.Fatalf("the baseline %v of %v: %v", of, a, m)
		}
	}
}

// Two alarms of one expression are known; in another run there are three of them, elsewhere.
func TestAnotherRun(t *testing.T) {
	l, e := base.Of([]api.Alarm{alarmAt(3, "i <= 1"), alarmAt(9, "i <= 1")}, "")
	if e != api.OK || len(l) != 2 {
		t.Fatal(l, e)
	}
	again := []api.Alarm{alarmAt(40, "i<=1"), alarmAt(13, "i  <= 1"), alarmAt(50, "i <= 1")}
	s, e := base.Match(l, again)
	if e != api.OK || !slices.Equal(s.Known, again[:2]) || !slices.Equal(s.Fresh, again[2:]) || len(s.Met) != 2 || len(s.Stale) != 0 {
		t.Errorf("%v, %d", s, e)
	}
}

func TestOf(t *testing.T) {
	a := []api.Alarm{alarmAt(3, "i <= 1"), alarmAt(9, "i <= 1"), alarmAt(5, "n <= 1")}
	l, e := base.Of(a, "why")
	var want []api.Mark
	for _, f := range slices.Sorted(slices.Values(finger.Of(a))) {
		want = append(want, api.Mark{Finger: f, Note: "why"})
	}
	if e != api.OK || !slices.Equal(l, want) || result.Base(l) != api.OK {
		t.Errorf("%v, %d, want %v", l, e, want)
	}
	long := slices.Repeat(a[:1], 1025)
	for k, c := range []struct {
		a    []api.Alarm
		note string
		n    int
		e    api.Errno
	}{
		{nil, "", 0, api.OK},
		{nil, "\n", 0, api.ErrMark},
		{a, strings.Repeat("n", 65), 0, api.ErrMark},
		{a, strings.Repeat("n", 64), 3, api.OK},
		{long, "\x7f", 0, api.ErrMark},
		{long, "", 0, api.ErrLong},
		{long[:1024], "", 1024, api.OK},
		{[]api.Alarm{{Kind: -5}, {Line: -1}}, "", 2, api.OK}, // whatever alarms are
	} {
		if l, e := base.Of(c.a, c.note); e != c.e || len(l) != c.n {
			t.Errorf("%d: %d marks, %d, want %d, %d", k, len(l), e, c.n, c.e)
		}
	}
}

func TestUnionLess(t *testing.T) {
	r := rand.New(rand.NewSource(2))
	from := []uint64{0, 1, 2, 3, 5, 8, 1 << 40, math.MaxUint64}
	for range 2000 {
		a, b := chance(r, from), chance(r, from)
		oldA, oldB := slices.Clone(a), slices.Clone(b)
		var union, less []api.Mark
		for _, f := range from {
			x, inA := base.Find(a, f)
			y, inB := base.Find(b, f)
			if inA || inB {
				union = append(union, api.Mark{Finger: f, Note: max(x.Note, y.Note)})
			}
			if inA && !inB {
				less = append(less, x)
			}
		}
		got, e := base.Union(a, b)
		if e != api.OK || !base.Same(got, union) {
			t.Fatalf("Union(%v, %v) = %v, %d", a, b, got, e)
		}
		back, _ := base.Union(b, a)
		if !base.Same(got, back) {
			t.Fatalf("Union(%v, %v) = %v", b, a, back)
		}
		got, e = base.Less(a, b)
		if e != api.OK || !base.Same(got, less) || !slices.Equal(a, oldA) || !slices.Equal(b, oldB) {
			t.Fatalf("Less(%v, %v) = %v, %d", a, b, got, e)
		}
	}
	even, odd := rise(512, 2, "e"), rise(513, 2, "o")
	for i := range odd {
		odd[i].Finger++
	}
	if l, e := base.Union(even, odd); e != api.ErrLong || len(l) != 0 {
		t.Error("one too many:", len(l), e)
	}
	if l, e := base.Union(even, odd[1:]); e != api.OK || len(l) != 1024 || result.Base(l) != api.OK {
		t.Error("as many as can be:", len(l), e)
	}
	full := rise(1024, 3, "")
	if l, e := base.Union(full, full); e != api.OK || !base.Same(l, full) {
		t.Error("twice the same:", e)
	}
	for k, l := range bad() {
		for _, two := range [][2][]api.Mark{{l, full}, {full, l}, {l, l}} {
			u, e := base.Union(two[0], two[1])
			x, e2 := base.Less(two[0], two[1])
			if e != api.ErrMark || e2 != api.ErrMark || len(u)+len(x) != 0 {
				t.Errorf("%d: %d, %d", k, e, e2)
			}
		}
	}
}

func TestFindSame(t *testing.T) {
	l := []api.Mark{{Finger: 0, Note: "zero"}, {Finger: 7, Note: "seven"}, {Finger: math.MaxUint64}}
	for _, m := range l {
		if got, ok := base.Find(l, m.Finger); got != m || !ok {
			t.Errorf("Find(%d) = %v, %v", m.Finger, got, ok)
		}
	}
	for _, f := range []uint64{1, 6, 8, math.MaxUint64 - 1} {
		if got, ok := base.Find(l, f); got != (api.Mark{}) || ok {
			t.Errorf("Find(%d) = %v", f, got)
		}
	}
	for _, l := range bad() {
		if got, ok := base.Find(l, l[0].Finger); got != (api.Mark{}) || ok {
			t.Errorf("found in what is no baseline: %v", got)
		}
	}
	other := slices.Clone(l)
	other[1].Note = "x"
	if !base.Same(l, slices.Clone(l)) || base.Same(l, other) || base.Same(l, l[:2]) || !base.Same(nil, []api.Mark{}) || base.Same([]api.Mark{l[0], l[1]}, []api.Mark{l[1], l[0]}) {
		t.Error("Same")
	}
	if !base.Same(bad()[0], bad()[0]) {
		t.Error("Same of what is no baseline")
	}
}
