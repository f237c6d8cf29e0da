package fold_test

import (
	"math"
	"math/rand"
	"slices"
	"strings"
	"testing"

	"warrantor/alarm"
	"warrantor/api"
	"warrantor/finger"
	"warrantor/fold"
	"warrantor/journal"
	"warrantor/rec"
)

func alarmAt(line int) api.Alarm {
	return api.Alarm{Kind: api.AlUpper, Sev: api.SevMay, Func: "f", File: "a", Line: line, Expr: "x <= 3"}
}

func entry(finger uint64, state int) api.Entry {
	e := api.Entry{Finger: finger, Alarm: alarmAt(7), State: state, Count: 3}
	if state == api.EnMuted {
		e.Note = "m"
	}
	return e
}

func tell(finger uint64, line int) api.Change {
	return api.Change{Kind: api.ChTell, Entry: api.Entry{Finger: finger, Alarm: alarmAt(line)}}
}

func change(kind int, finger uint64, note string) api.Change {
	return api.Change{Kind: kind, Entry: api.Entry{Finger: finger, Note: note}}
}

func put(e api.Entry) api.Change { return api.Change{Kind: api.ChPut, Entry: e} }

// three stand: 10 is done with, 20 open, 30 muted.
func three() []api.Entry {
	return []api.Entry{entry(10, api.EnDone), entry(20, api.EnOpen), entry(30, api.EnMuted)}
}

func rise(n int) []api.Entry {
	var l []api.Entry
	for i := range n {
		l = append(l, entry(uint64(i), api.EnOpen))
	}
	return l
}

func TestDo(t *testing.T) {
	with := func(at int, do func(*api.Entry)) []api.Entry {
		l := three()
		do(&l[at])
		return l
	}
	full := entry(20, api.EnOpen)
	full.Count = api.MaxCount
	ahead, behind := entry(20, api.EnDone), entry(20, api.EnMuted)
	ahead.Alarm.Line, ahead.Count = 6, 2
	behind.Alarm.Line, behind.Count, behind.Note = 8, 9, "a"
	lower, upper := entry(30, api.EnMuted), entry(30, api.EnMuted)
	lower.Note, upper.Note = "l", "n"
	for k, c := range []struct {
		l    []api.Entry
		c    api.Change
		want []api.Entry
		e    api.Errno
	}{
		{nil, tell(5, 9), []api.Entry{{Finger: 5, Alarm: alarmAt(9), State: api.EnOpen, Count: 1}}, api.OK},
		{three(), tell(5, 9), append([]api.Entry{{Finger: 5, Alarm: alarmAt(9), State: api.EnOpen, Count: 1}}, three()...), api.OK},
		{three(), tell(math.MaxUint64, 9), append(three(), api.Entry{Finger: math.MaxUint64, Alarm: alarmAt(9), State: api.EnOpen, Count: 1}), api.OK},
		{three(), tell(10, 9), with(0, func(e *api.Entry) { e.Alarm, e.Count, e.State = alarmAt(9), 4, api.EnOpen }), api.OK},
		{three(), tell(20, 2), with(1, func(e *api.Entry) { e.Alarm, e.Count = alarmAt(2), 4 }), api.OK},
		{three(), tell(30, 9), with(2, func(e *api.Entry) { e.Alarm, e.Count = alarmAt(9), 4 }), api.OK},
		{[]api.Entry{full}, tell(20, 7), []api.Entry{full}, api.OK},
		{rise(511), tell(1000, 7), append(rise(511), api.Entry{Finger: 1000, Alarm: alarmAt(7), State: api.EnOpen, Count: 1}), api.OK},
		{rise(512), tell(1000, 7), nil, api.ErrFull},
		{three(), change(api.ChMute, 5, "a"), nil, api.ErrNone},
		{three(), change(api.ChMute, 10, "a"), with(0, func(e *api.Entry) { e.State, e.Note = api.EnMuted, "a" }), api.OK},
		{three(), change(api.ChMute, 20, ""), with(1, func(e *api.Entry) { e.State = api.EnMuted }), api.OK},
		{three(), change(api.ChMute, 30, "m"), nil, api.ErrOnce},
		{three(), change(api.ChMute, 30, ""), with(2, func(e *api.Entry) { e.Note = "" }), api.OK},
		{three(), change(api.ChMute, 30, "n"), with(2, func(e *api.Entry) { e.Note = "n" }), api.OK},
		{three(), change(api.ChOpen, 5, ""), nil, api.ErrNone},
		{three(), change(api.ChOpen, 10, ""), with(0, func(e *api.Entry) { e.State = api.EnOpen }), api.OK},
		{three(), change(api.ChOpen, 20, ""), nil, api.ErrOnce},
		{three(), change(api.ChOpen, 30, ""), with(2, func(e *api.Entry) { e.State, e.Note = api.EnOpen, "" }), api.OK},
		{three(), change(api.ChDone, 31, ""), nil, api.ErrNone},
		{three(), change(api.ChDone, 10, ""), nil, api.ErrOnce},
		{three(), change(api.ChDone, 20, ""), with(1, func(e *api.Entry) { e.State = api.EnDone }), api.OK},
		{three(), change(api.ChDone, 30, ""), with(2, func(e *api.Entry) { e.State, e.Note = api.EnDone, "" }), api.OK},
		{three(), put(entry(25, api.EnMuted)), slices.Insert(three(), 2, entry(25, api.EnMuted)), api.OK},
		{rise(512), put(entry(1000, api.EnOpen)), nil, api.ErrFull},
		{rise(512), put(entry(3, api.EnMuted)), slices.Replace(rise(512), 3, 4, entry(3, api.EnMuted)), api.OK},
		{three(), put(entry(20, api.EnOpen)), three(), api.OK},
		{three(), put(ahead), three(), api.OK},
		{three(), put(behind), []api.Entry{entry(10, api.EnDone), behind, entry(30, api.EnMuted)}, api.OK},
		{three(), put(lower), three(), api.OK},
		{three(), put(upper), with(2, func(e *api.Entry) { e.Note = "n" }), api.OK},
		{three(), put(entry(30, api.EnOpen)), three(), api.OK},
		{three(), api.Change{}, nil, api.ErrRec},
		{three(), change(api.ChDone, 20, "a"), nil, api.ErrRec},
		{three(), change(api.ChTell, 20, ""), nil, api.ErrRec},
		{[]api.Entry{entry(2, 1), entry(1, 1)}, api.Change{}, nil, api.ErrArg},
		{rise(513), tell(1, 7), nil, api.ErrArg},
		{[]api.Entry{{}}, tell(1, 7), nil, api.ErrArg},
	} {
		old := slices.Clone(c.l)
		got, e := fold.Do(c.l, c.c)
		if e != c.e || !fold.Same(got, c.want) || e == api.OK && !journal.Stand(got) {
			t.Errorf("%d: %v, %d, want %v, %d", k, got, e, c.want, c.e)
		}
		if !fold.Same(c.l, old) {
			t.Errorf("%d: changed", k)
		}
	}
}

func TestAll(t *testing.T) {
	for k, c := range []struct {
		l     []api.Entry
		batch []api.Change
		want  []api.Entry
		e     api.Errno
	}{
		{three(), nil, three(), api.OK},
		{nil, nil, nil, api.OK},
		{nil, []api.Change{tell(5, 7), change(api.ChMute, 5, "x"), tell(5, 8)}, []api.Entry{{Finger: 5, Alarm: alarmAt(8), State: api.EnMuted, Count: 2, Note: "x"}}, api.OK},
		{three(), []api.Change{change(api.ChOpen, 10, ""), change(api.ChOpen, 20, ""), change(api.ChOpen, 5, "")}, nil, api.ErrOnce},
		{three(), []api.Change{change(api.ChOpen, 5, ""), change(api.ChOpen, 20, "")}, nil, api.ErrNone},
		{three(), []api.Change{change(api.ChOpen, 5, ""), {}}, nil, api.ErrRec},
		{three(), []api.Change{change(api.ChOpen, 10, ""), change(api.ChOpen, 10, "")}, nil, api.ErrOnce},
		{[]api.Entry{{}}, []api.Change{{}}, nil, api.ErrArg},
		{rise(511), []api.Change{tell(1000, 7), tell(1001, 7)}, nil, api.ErrFull},
	} {
		old := slices.Clone(c.l)
		got, e := fold.All(c.l, c.batch)
		if e != c.e || !fold.Same(got, c.want) || !fold.Same(c.l, old) {
			t.Errorf("%d: %v, %d, want %v, %d", k, got, e, c.want, c.e)
		}
	}
	// What was handed in, and what lies behind it, stays as it was.
	room := append(rise(3), entry(99, api.EnOpen))
	got, _ := fold.All(room[:3], []api.Change{tell(1, 50), tell(7, 50), change(api.ChDone, 0, "")})
	got[2].Count = 1000
	if !fold.Same(room, append(rise(3), entry(99, api.EnOpen))) {
		t.Error("changed")
	}
}

func TestFindSame(t *testing.T) {
	for _, e := range three() {
		if got, ok := fold.Find(three(), e.Finger); got != e || !ok {
			t.Errorf("Find(%d) = %v", e.Finger, got)
		}
	}
	for _, l := range [][]api.Entry{nil, three(), {entry(25, 1), entry(25, 1)}, {entry(26, 1), entry(25, 1)}, {{Finger: 25}}} {
		if got, ok := fold.Find(l, 25); got != (api.Entry{}) || ok {
			t.Errorf("found %v", got)
		}
	}
	other := three()
	other[2].Note = "n"
	if !fold.Same(three(), three()) || fold.Same(three(), other) || fold.Same(three(), three()[:2]) || !fold.Same(nil, []api.Entry{}) || !fold.Same([]api.Entry{{}, {}}, []api.Entry{{}, {}}) {
		t.Error("Same")
	}
}

func TestPlanRun(t *testing.T) {
	a := []api.Alarm{alarmAt(3), alarmAt(9), {Kind: api.AlDiff, Sev: api.SevMust, Func: "g", File: "b", Line: 1, Expr: "x - y <= 0"}}
	f := finger.Of(a)
	tells := func() []api.Change {
		var l []api.Change
		for i := range a {
			l = append(l, api.Change{Kind: api.ChTell, Entry: api.Entry{Finger: f[i], Alarm: a[i]}})
		}
		return l
	}
	l, e := fold.Do(three(), tells()[1])
	if e != api.OK {
		t.Fatal(e)
	}
	batch, e := fold.Plan(l, api.Cmd{Kind: api.CmRun, Alarms: a})
	if e != api.OK || !rec.Same(batch, tells()) {
		t.Errorf("without sweep: %v, %d", batch, e)
	}
	batch, e = fold.Plan(l, api.Cmd{Kind: api.CmRun, N: 1, Alarms: a})
	if e != api.OK || !rec.Same(batch, append(tells(), change(api.ChDone, 20, ""))) {
		t.Errorf("with sweep: %v, %d", batch, e)
	}
	batch, e = fold.Plan(l, api.Cmd{Kind: api.CmRun, N: 1})
	var want []api.Change
	for _, x := range l {
		if x.State == api.EnOpen {
			want = append(want, change(api.ChDone, x.Finger, ""))
		}
	}
	if e != api.OK || len(want) != 2 || !rec.Same(batch, want) {
		t.Errorf("of none: %v, %d", batch, e)
	}
	if batch, e = fold.Plan(l, api.Cmd{Kind: api.CmRun}); e != api.OK || len(batch) != 0 {
		t.Errorf("of none: %v, %d", batch, e)
	}
	many := make([]api.Alarm, 257)
	for i := range many {
		many[i] = alarmAt(i + 1)
	}
	bad := []api.Alarm{alarmAt(1), {}}
	for k, c := range []struct {
		l []api.Entry
		c api.Cmd
		n int
		e api.Errno
	}{
		{nil, api.Cmd{N: -1, Alarms: many}, 0, api.ErrArg},
		{nil, api.Cmd{N: 2, Alarms: many}, 0, api.ErrArg},
		{nil, api.Cmd{Alarms: append(slices.Clone(many), bad...)}, 0, api.ErrLong},
		{nil, api.Cmd{Alarms: many}, 0, api.ErrLong},
		{nil, api.Cmd{Alarms: bad}, 0, api.ErrAlarm},
		{nil, api.Cmd{Alarms: many[:256]}, 256, api.OK},
		{rise(256), api.Cmd{N: 1, Alarms: many[:256]}, 512, api.OK},
		{rise(257), api.Cmd{N: 1, Alarms: many[:256]}, 0, api.ErrLong},
		{rise(257), api.Cmd{N: 0, Alarms: many[:256]}, 0, api.ErrFull},
		{rise(512), api.Cmd{N: 1}, 512, api.OK},
		{rise(512), api.Cmd{Alarms: many[:1]}, 0, api.ErrFull},
	} {
		c.c.Kind = api.CmRun
		batch, e := fold.Plan(c.l, c.c)
		if e != c.e || len(batch) != c.n {
			t.Errorf("%d: %d changes, %d, want %d, %d", k, len(batch), e, c.n, c.e)
		}
	}
}

func TestPlanOthers(t *testing.T) {
	note := strings.Repeat("n", 65)
	bad := []api.Entry{entry(2, 1), entry(1, 1)}
	more := entry(20, api.EnOpen)
	more.Count = 4
	less := entry(20, api.EnDone)
	less.Count = 1
	unused := api.Cmd{Finger: 5, Note: note, Alarms: make([]api.Alarm, 300), Marks: []api.Mark{{Finger: 1}, {Finger: 1}}, Entries: bad}
	for k, c := range []struct {
		c    api.Cmd
		want []api.Change
		e    api.Errno
	}{
		{api.Cmd{Kind: 0}, nil, api.ErrArg},
		{api.Cmd{Kind: 8}, nil, api.ErrArg},
		{api.Cmd{Kind: -1}, nil, api.ErrArg},
		{api.Cmd{Kind: api.CmMute, Finger: 20, Note: "a"}, []api.Change{change(api.ChMute, 20, "a")}, api.OK},
		{api.Cmd{Kind: api.CmMute, Finger: 5, Note: note}, nil, api.ErrMark},
		{api.Cmd{Kind: api.CmMute, Finger: 5, Note: "\n"}, nil, api.ErrMark},
		{api.Cmd{Kind: api.CmMute, Finger: 5, Note: "a"}, nil, api.ErrNone},
		{api.Cmd{Kind: api.CmMute, Finger: 30, Note: "m"}, nil, api.ErrOnce},
		{api.Cmd{Kind: api.CmMute, Finger: 30, Alarms: unused.Alarms, Marks: unused.Marks, Entries: bad}, []api.Change{change(api.ChMute, 30, "")}, api.OK},
		{api.Cmd{Kind: api.CmOpen, Finger: 10, Note: note, Alarms: unused.Alarms, Marks: unused.Marks, Entries: bad}, []api.Change{change(api.ChOpen, 10, "")}, api.OK},
		{api.Cmd{Kind: api.CmOpen, Finger: 20}, nil, api.ErrOnce},
		{api.Cmd{Kind: api.CmOpen, Finger: 21}, nil, api.ErrNone},
		{api.Cmd{Kind: api.CmDone, Finger: 30, Note: note, Alarms: unused.Alarms, Marks: unused.Marks, Entries: bad}, []api.Change{change(api.ChDone, 30, "")}, api.OK},
		{api.Cmd{Kind: api.CmDone, Finger: 10}, nil, api.ErrOnce},
		{api.Cmd{Kind: api.CmDone, Finger: 11}, nil, api.ErrNone},
		{api.Cmd{Kind: api.CmBase, Marks: unused.Marks}, nil, api.ErrMark},
		{api.Cmd{Kind: api.CmBase, Marks: []api.Mark{{Finger: 5, Note: "x"}, {Finger: 10, Note: "y"}, {Finger: 20}, {Finger: 30, Note: "m"}}, Finger: 7, Note: note, Alarms: unused.Alarms, Entries: bad}, []api.Change{change(api.ChMute, 10, "y"), change(api.ChMute, 20, "")}, api.OK},
		{api.Cmd{Kind: api.CmBase, Marks: []api.Mark{{Finger: 30, Note: "z"}}}, []api.Change{change(api.ChMute, 30, "z")}, api.OK},
		{api.Cmd{Kind: api.CmBase}, nil, api.OK},
		{api.Cmd{Kind: api.CmMerge, Entries: bad}, nil, api.ErrArg},
		{api.Cmd{Kind: api.CmMerge, Entries: three(), Finger: 7, Note: note, Alarms: unused.Alarms, Marks: unused.Marks}, nil, api.OK},
		{api.Cmd{Kind: api.CmMerge, Entries: []api.Entry{entry(5, api.EnOpen), less, entry(30, api.EnDone)}}, []api.Change{put(entry(5, api.EnOpen))}, api.OK},
		{api.Cmd{Kind: api.CmMerge, Entries: []api.Entry{entry(10, api.EnOpen), more, entry(30, api.EnMuted)}}, []api.Change{put(entry(10, api.EnOpen)), put(more)}, api.OK},
		{api.Cmd{Kind: api.CmPack, Finger: 7, Note: note, Alarms: unused.Alarms, Marks: unused.Marks, Entries: bad}, nil, api.OK},
	} {
		got, e := fold.Plan(three(), c.c)
		if e != c.e || !rec.Same(got, c.want) {
			t.Errorf("%d: %v, %d, want %v, %d", k, got, e, c.want, c.e)
		}
		if got, e := fold.Plan(bad, c.c); e != api.ErrArg || len(got) != 0 {
			t.Errorf("%d: of what does not stand: %v, %d", k, got, e)
		}
	}
	if _, e := fold.Plan(rise(512), api.Cmd{Kind: api.CmMerge, Entries: []api.Entry{entry(600, 1)}}); e != api.ErrFull {
		t.Error("one too many:", e)
	}
}

// TestPlanN: whatever its kind, and whatever else would be told of it, a command's N is 0 or 1.
func TestPlanN(t *testing.T) {
	many := make([]api.Alarm, 300)
	for k, c := range []struct {
		c api.Cmd
		n int
		e api.Errno
	}{
		{api.Cmd{Kind: api.CmRun}, 0, api.OK},
		{api.Cmd{Kind: api.CmRun, Alarms: many}, 0, api.ErrLong},
		{api.Cmd{Kind: api.CmRun, Alarms: many[:1]}, 0, api.ErrAlarm},
		{api.Cmd{Kind: api.CmMute, Finger: 20}, 1, api.OK},
		{api.Cmd{Kind: api.CmMute, Finger: 20, Note: "\n"}, 0, api.ErrMark},
		{api.Cmd{Kind: api.CmMute, Finger: 5}, 0, api.ErrNone},
		{api.Cmd{Kind: api.CmOpen, Finger: 10}, 1, api.OK},
		{api.Cmd{Kind: api.CmOpen, Finger: 20}, 0, api.ErrOnce},
		{api.Cmd{Kind: api.CmDone, Finger: 20}, 1, api.OK},
		{api.Cmd{Kind: api.CmDone, Finger: 10}, 0, api.ErrOnce},
		{api.Cmd{Kind: api.CmBase, Marks: []api.Mark{{Finger: 10}}}, 1, api.OK},
		{api.Cmd{Kind: api.CmBase, Marks: []api.Mark{{Finger: 1}, {Finger: 1}}}, 0, api.ErrMark},
		{api.Cmd{Kind: api.CmMerge, Entries: []api.Entry{entry(5, api.EnOpen)}}, 1, api.OK},
		{api.Cmd{Kind: api.CmPack}, 0, api.OK},
	} {
		for _, n := range []int{math.MinInt, -2, -1, 2, 3, math.MaxInt} {
			c.c.N = n
			if batch, e := fold.Plan(three(), c.c); e != api.ErrArg || len(batch) != 0 {
				t.Errorf("%d: N %d: %v, %d", k, n, batch, e)
			}
		}
		for c.c.N = range 2 {
			if c.c.Kind == api.CmRun && c.c.N == 1 && c.e == api.OK {
				c.n++ // what is open, 20, is done with
			}
			if batch, e := fold.Plan(three(), c.c); e != c.e || len(batch) != c.n {
				t.Errorf("%d: N %d: %v, %d, want %d changes, %d", k, c.c.N, batch, e, c.n, c.e)
			}
		}
	}
}

func chance(r *rand.Rand) []api.Entry {
	var l []api.Entry
	for f := range 6 {
		if r.Intn(2) == 0 {
			continue
		}
		e := api.Entry{Finger: uint64(f), Alarm: alarmAt(1 + r.Intn(3)), State: 1 + r.Intn(3), Count: 1 + r.Intn(3)}
		e.Alarm.Sev = 1 + r.Intn(2)
		if e.State == api.EnMuted {
			e.Note = []string{"", "a", "b"}[r.Intn(3)]
		}
		l = append(l, e)
	}
	return l
}

// doing plans a command and does its batch.
func doing(t *testing.T, l []api.Entry, c api.Cmd) ([]api.Entry, []api.Change) {
	t.Helper()
	batch, e := fold.Plan(l, c)
	if e != api.OK {
		t.Fatal(e)
	}
	out, e := fold.All(l, batch)
	if e != api.OK || !journal.Stand(out) {
		t.Fatal(e, out)
	}
	return out, batch
}

// Entries stand behind each change; what is taken twice changes nothing; it does not matter who takes whose.
func TestChance(t *testing.T) {
	r := rand.New(rand.NewSource(1))
	for range 1500 {
		a, b, c := chance(r), chance(r), chance(r)
		ab, _ := doing(t, a, api.Cmd{Kind: api.CmMerge, Entries: b})
		ba, _ := doing(t, b, api.Cmd{Kind: api.CmMerge, Entries: a})
		if !fold.Same(ab, ba) {
			t.Fatalf("%v and %v: %v, %v", a, b, ab, ba)
		}
		again, batch := doing(t, ab, api.Cmd{Kind: api.CmMerge, Entries: b})
		if len(batch) != 0 || !fold.Same(again, ab) {
			t.Fatalf("taken twice: %v", batch)
		}
		abc, _ := doing(t, ab, api.Cmd{Kind: api.CmMerge, Entries: c})
		bc, _ := doing(t, b, api.Cmd{Kind: api.CmMerge, Entries: c})
		if other, _ := doing(t, a, api.Cmd{Kind: api.CmMerge, Entries: bc}); !fold.Same(abc, other) {
			t.Fatalf("in another order: %v, %v", abc, other)
		}
		for _, e := range ab {
			x, inA := fold.Find(a, e.Finger)
			y, inB := fold.Find(b, e.Finger)
			if inA && inB {
				if alarm.Cmp(x.Alarm, y.Alarm) < 0 {
					x, y = y, x
				}
				if e.Alarm != x.Alarm || e.State != max(x.State, y.State) || e.Count != max(x.Count, y.Count) || e.Note != max(x.Note, y.Note) {
					t.Fatalf("%v and %v: %v", x, y, e)
				}
			} else if inA && e != x || inB && e != y {
				t.Fatalf("%v of %v, %v", e, x, y)
			}
		}
		var marks []api.Mark
		for f := range 6 {
			if r.Intn(2) == 0 {
				marks = append(marks, api.Mark{Finger: uint64(f), Note: []string{"", "a"}[r.Intn(2)]})
			}
		}
		base, _ := doing(t, a, api.Cmd{Kind: api.CmBase, Marks: marks})
		for _, m := range marks {
			if e, ok := fold.Find(base, m.Finger); ok && (e.State != api.EnMuted || e.Note != m.Note) {
				t.Fatalf("%v is not muted: %v", m, e)
			}
		}
		if _, batch := doing(t, base, api.Cmd{Kind: api.CmBase, Marks: marks}); len(batch) != 0 {
			t.Fatalf("a baseline taken twice: %v", batch)
		}
		// A change, or why it is refused.
		ch := []api.Change{tell(uint64(r.Intn(6)), 1+r.Intn(3)), change(2, uint64(r.Intn(6)), []string{"", "a"}[r.Intn(2)]), change(3+r.Intn(2), uint64(r.Intn(6)), "")}
		l := a
		var first api.Errno
		for _, x := range ch {
			next, e := fold.Do(l, x)
			if e == api.OK && !journal.Stand(next) || e != api.OK && len(next) != 0 {
				t.Fatal(next, e)
			}
			if e != api.OK {
				first = e
				break
			}
			l = next
		}
		got, e := fold.All(a, ch)
		if e != first || e == api.OK && !fold.Same(got, l) {
			t.Fatal("All is not Do by Do:", e, first)
		}
	}
}
