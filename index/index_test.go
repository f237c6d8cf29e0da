package index_test

import (
	"cmp"
	"math"
	"math/rand"
	"slices"
	"strings"
	"testing"

	"warrantor/api"
	"warrantor/eval"
	"warrantor/fnv"
	"warrantor/index"
)

func entry(finger uint64, line int) api.Entry {
	return api.Entry{Finger: finger, Alarm: api.Alarm{Kind: 1, Sev: 1, Func: "f", File: "a", Line: line, Expr: "x"}, State: api.EnOpen, Count: 1}
}

func made(t *testing.T, l ...api.Entry) *index.Index {
	t.Helper()
	x, e := index.Of(l)
	if e != api.OK || x == nil {
		t.Fatal("Of:", e)
	}
	return x
}

func TestOf(t *testing.T) {
	x := made(t, entry(1, 9), entry(2, 3), entry(3, 9))
	if got := x.Row(api.FiLine); !slices.Equal(got, []uint64{2, 1, 3}) {
		t.Error("the example:", got)
	}
	many := make([]api.Entry, 513)
	for i := range many {
		many[i] = entry(uint64(i), 1)
	}
	for k, l := range [][]api.Entry{{entry(2, 1), entry(1, 1)}, {entry(1, 1), entry(1, 1)}, {{}}, many} {
		if x, e := index.Of(l); x != nil || e != api.ErrArg {
			t.Errorf("%d: %d", k, e)
		}
	}
	x = made(t, many[:512]...)
	if x.Len() != 512 || !slices.Equal(x.Entries(), many[:512]) {
		t.Error("as many as can be:", x.Len())
	}
	if e := x.Put(many[512]); e != api.ErrFull || x.Len() != 512 {
		t.Error("one too many:", e)
	}
	if e := x.Put(entry(5, 77)); e != api.OK || x.Len() != 512 {
		t.Error("in place of one:", e)
	}
	if e := x.Drop(6); e != api.OK || x.Len() != 511 {
		t.Error("gone:", e)
	}
	if e := x.Put(many[512]); e != api.OK || x.Len() != 512 {
		t.Error("there is room again:", e)
	}
}

func TestPutDrop(t *testing.T) {
	x := made(t)
	if x.Len() != 0 || len(x.Entries()) != 0 || len(x.Row(api.FiNote)) != 0 {
		t.Error("of none")
	}
	for k, bad := range []func(*api.Entry){func(e *api.Entry) { e.Count = 0 }, func(e *api.Entry) { e.Note = "x" }, func(e *api.Entry) { e.Alarm.Line = 0 }, func(e *api.Entry) { e.State = 4 }} {
		e := entry(1, 1)
		bad(&e)
		if got := x.Put(e); got != api.ErrArg || x.Len() != 0 {
			t.Errorf("%d: %d", k, got)
		}
	}
	if e := x.Drop(1); e != api.ErrNone {
		t.Error("Drop of none:", e)
	}
	x.Put(entry(1, 5))
	x.Put(entry(math.MaxUint64, 2))
	x.Put(entry(1, 1))
	if got, ok := x.Get(1); got != entry(1, 1) || !ok {
		t.Error("Get:", got)
	}
	if got, ok := x.Get(2); got != (api.Entry{}) || ok {
		t.Error("Get of none:", got)
	}
	if !slices.Equal(x.Row(api.FiLine), []uint64{1, math.MaxUint64}) || !slices.Equal(x.Entries(), []api.Entry{entry(1, 1), entry(math.MaxUint64, 2)}) {
		t.Error("rows:", x.Row(api.FiLine), x.Entries())
	}
	if e := x.Drop(1); e != api.OK {
		t.Error("Drop:", e)
	}
	if e := x.Drop(1); e != api.ErrNone || x.Len() != 1 {
		t.Error("Drop again:", e)
	}
	x.Row(api.FiLine)[0] = 9
	x.Entries()[0].Count = 9
	if !slices.Equal(x.Entries(), []api.Entry{entry(math.MaxUint64, 2)}) || x.Row(api.FiLine)[0] != math.MaxUint64 {
		t.Error("shared")
	}
}

func TestNil(t *testing.T) {
	var x *index.Index
	c := api.Term{Op: api.OpCmp, Field: api.FiLine, Rel: api.RelIs, Num: 1}
	if x.Put(entry(1, 1)) != api.ErrShut || x.Put(api.Entry{}) != api.ErrShut || x.Drop(1) != api.ErrShut || x.Len() != 0 || len(x.Entries()) != 0 || len(x.Row(1)) != 0 || x.Many(c) != 0 {
		t.Error("of nil")
	}
	if got, ok := x.Get(1); ok || got != (api.Entry{}) {
		t.Error("Get of nil")
	}
	for _, t1 := range []api.Term{c, {}} {
		if l, e := x.Find(t1); e != api.ErrShut || len(l) != 0 {
			t.Error("Find of nil:", e)
		}
	}
}

func TestWrong(t *testing.T) {
	x := made(t, entry(1, 9))
	for _, field := range []int{0, -1, 11, math.MaxInt, math.MinInt} {
		if len(x.Row(field)) != 0 {
			t.Error("Row of", field)
		}
	}
	for k, c := range []api.Term{{}, {Op: api.OpAll}, {Op: api.OpNot}, {Op: api.OpCmp}, {Op: api.OpCmp, Field: api.FiLine, Rel: api.RelHas, Num: 9}, {Op: api.OpCmp, Field: api.FiLine, Rel: api.RelIs, Num: -1}, {Op: api.OpCmp, Field: api.FiFile, Rel: api.RelIs, Text: "\n"}, {Op: api.OpCmp, Field: 11, Rel: api.RelIs}, {Op: api.OpCmp, Field: api.FiFinger, Rel: api.RelIs, Text: "1"}} {
		if l, e := x.Find(c); e != api.ErrAsk || len(l) != 0 || x.Many(c) != 0 {
			t.Errorf("%d: %v, %d", k, l, e)
		}
	}
}

func chance(r *rand.Rand, finger uint64) api.Entry {
	e := api.Entry{
		Finger: finger,
		Alarm:  api.Alarm{Kind: 1 + r.Intn(3), Sev: 1 + r.Intn(2), Func: []string{"f", "g", "fg"}[r.Intn(3)], File: []string{"a", "lib/a", "lib/b", "lib"}[r.Intn(4)], Line: 1 + r.Intn(6), Expr: []string{"x <= 1", "x <= 2"}[r.Intn(2)]},
		State:  1 + r.Intn(3), Count: 1 + r.Intn(4),
	}
	if e.State == api.EnMuted {
		e.Note = []string{"", "a", "ab"}[r.Intn(3)]
	}
	return e
}

// comparisons are all that may mean something of such entries.
func comparisons() []api.Term {
	var l []api.Term
	add := func(field, rel, n int, s string) {
		l = append(l, api.Term{Op: api.OpCmp, Field: field, Rel: rel, Num: n, Text: s})
	}
	for n := range 8 {
		for _, field := range []int{api.FiLine, api.FiCount} {
			for _, rel := range []int{api.RelIs, api.RelBelow, api.RelAbove} {
				add(field, rel, n, "")
			}
		}
		if n >= 1 && n <= 3 {
			add(api.FiKind, api.RelIs, n, "")
			add(api.FiState, api.RelIs, n, "")
			add(api.FiSev, api.RelIs, min(n, 2), "")
		}
		add(api.FiFinger, api.RelIs, 0, fnv.Show(uint64(n)*3))
	}
	for _, field := range []int{api.FiFile, api.FiFunc, api.FiExpr, api.FiNote} {
		for _, s := range []string{"", "a", "b", "f", "g", "lib", "lib/", "lib/a", "lib/c", "x", "x <= 1", "~", " ", strings.Repeat("z", 128)} {
			for rel := api.RelIs; rel <= api.RelBegins; rel++ {
				add(field, rel, 0, s)
			}
		}
	}
	return l
}

// Whatever is put and dropped, an index is that of its entries, and finds of them what holds.
func TestChance(t *testing.T) {
	r := rand.New(rand.NewSource(1))
	terms := comparisons()
	for range 60 {
		x := made(t)
		model := map[uint64]api.Entry{}
		for range 80 {
			f := uint64(r.Intn(25))
			if r.Intn(3) == 0 {
				want := api.ErrNone
				if _, ok := model[f]; ok {
					want = api.OK
				}
				delete(model, f)
				if e := x.Drop(f); e != want {
					t.Fatal("Drop:", e)
				}
				continue
			}
			e := chance(r, f)
			model[f] = e
			if got := x.Put(e); got != api.OK {
				t.Fatal("Put:", got)
			}
		}
		var l []api.Entry
		for _, e := range model {
			l = append(l, e)
		}
		slices.SortFunc(l, func(a, b api.Entry) int { return cmp.Compare(a.Finger, b.Finger) })
		of := made(t, l...)
		if x.Len() != len(l) || !slices.Equal(x.Entries(), l) || !slices.Equal(of.Entries(), l) {
			t.Fatalf("%v, want %v", x.Entries(), l)
		}
		for field := api.FiKind; field <= api.FiFinger; field++ {
			q := api.Query{Filter: []api.Term{{Op: api.OpAll}}, Order: field, Most: 100}
			p, _ := eval.Run(l, q)
			var want []uint64
			for _, e := range p.Entries {
				want = append(want, e.Finger)
			}
			if got := x.Row(field); !slices.Equal(got, want) || !slices.Equal(of.Row(field), want) {
				t.Fatalf("the row %d: %v, want %v", field, got, want)
			}
		}
		for _, c := range terms {
			var want []uint64
			for _, e := range l {
				if is, e2 := eval.Means([]api.Term{c}, e); is && e2 == api.OK {
					want = append(want, e.Finger)
				}
			}
			got, e := x.Find(c)
			if e != api.OK || !slices.Equal(got, want) || x.Many(c) != len(want) {
				t.Fatalf("Find(%v) = %v, %d, want %v", c, got, e, want)
			}
		}
	}
}
