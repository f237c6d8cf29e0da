package script_test

import (
	"bytes"
	"math"
	"slices"
	"strings"
	"testing"

	"warrantor/api"
	"warrantor/base"
	"warrantor/bin"
	"warrantor/eval"
	"warrantor/finger"
	"warrantor/fold"
	"warrantor/merge"
	"warrantor/parse"
	"warrantor/result"
	"warrantor/script"
	"warrantor/text"
)

// source is a loop up to 10, behind which three checks have alarms; lines are those of its points.
func source(lines ...string) string {
	if len(lines) == 0 {
		lines = []string{"1", "2", "3", "4", "5"}
	}
	s := "airx 1\nprogram count\nvars i n\n"
	for k, l := range lines {
		s += "point " + string(rune('0'+k)) + " main a.w " + l + "\n"
	}
	return s + `edge 0 1 "i := 0"
edge 1 2 "limit i <= 9"
edge 2 1 "i := i + 1"
edge 1 3 "limit -i <= -10"
edge 3 4 "check i <= 10"
edge 3 4 "check i - n <= 0"
edge 3 4 "check i <= 4"
edge 4 4 "check i - n <= 0"
order "0 (1 2) 3 (4)"
first all
zone 0 all
zone 1 -i<=0 i<=10 i-n<=1099511627786 n-i<=1099511627776
zone 2 -i<=0 i<=9 i-n<=1099511627785 n-i<=1099511627776
zone 3 -i<=-10 i<=10 i-n<=1099511627786 n-i<=1099511627766
zone 4 -i<=-10 i<=10 i-n<=1099511627786 n-i<=1099511627766
alarm diff may main a.w ` + lines[3] + ` "i - n <= 0"
alarm upper must main a.w ` + lines[3] + ` "i <= 4"
alarm diff may main a.w ` + lines[4] + ` "i - n <= 0"
end
`
}

// wide is the same program, of which less is known at its end.
func wide() string {
	s := strings.Replace(source(), "zone 4 -i<=-10 i<=10 i-n<=1099511627786 n-i<=1099511627766", "zone 4 all", 1)
	return strings.Replace(s, "\nend\n", "\nmark 0000000000000007 \"seven\"\nend\n", 1)
}

func loaded(t *testing.T, s string) api.Result {
	t.Helper()
	r, line, col, e := text.Get(s)
	if e != api.OK {
		t.Fatal(line, col, e)
	}
	return r
}

// tells asks a desk for what came of something.
func tells(t *testing.T, x *script.Desk, d api.Do, want api.Told) {
	t.Helper()
	if got := x.Do(d); !script.Same(got, want) {
		t.Errorf("%v tells %v, want %v", d, got, want)
	}
}

func in(t *testing.T, x *script.Desk, n int, want api.Result) {
	t.Helper()
	if r, ok := x.Slot(n); !ok || !result.Same(r, want) {
		t.Errorf("the slot %d: %v, %v", n, r, ok)
	}
}

func TestSlots(t *testing.T) {
	x := script.New()
	for n := -1; n <= 4; n++ {
		if r, ok := x.Slot(n); ok || !result.Same(r, api.Result{}) {
			t.Error("a new desk has", n)
		}
	}
	r := loaded(t, source())
	tells(t, x, api.Do{Kind: api.DoLoad, N: 3, Text: source()}, api.Told{A: 3})
	in(t, x, 3, r)
	b, _ := bin.Put(r)
	tells(t, x, api.Do{Kind: api.DoGive, N: 3}, api.Told{A: len(b), B: len(source()), Bytes: b})
	tells(t, x, api.Do{Kind: api.DoTake, N: 0, Bytes: b}, api.Told{A: 3})
	in(t, x, 0, r)
	w := loaded(t, wide())
	tells(t, x, api.Do{Kind: api.DoLoad, N: 0, Text: wide()}, api.Told{A: 3, B: 1})
	in(t, x, 0, w)
	both, e := merge.Two(w, r)
	if e != api.OK {
		t.Fatal(e)
	}
	tells(t, x, api.Do{Kind: api.DoMerge, N: 0, M: 3}, api.Told{A: 3, B: 1})
	in(t, x, 0, both)
	in(t, x, 3, r)
	// What is told of a slot is nobody else's.
	got, _ := x.Slot(0)
	got.Prog.Vars[0], got.Zones[0].M[1], got.Marks[0].Note, got.Wto.Points[0], got.First.M[2], got.Alarms[0].Line = "q", 3, "x", 7, 7, 77
	in(t, x, 0, both)
}

func TestSlotErrors(t *testing.T) {
	b, _ := bin.Put(loaded(t, source()))
	bad := bytes.Clone(b)
	bad[9] ^= 1
	_, place, takeErr := bin.Get(bad)
	x := script.New()
	x.Do(api.Do{Kind: api.DoLoad, N: 1, Text: source()})
	for k, c := range []struct {
		d    api.Do
		want api.Told
	}{
		{api.Do{Kind: api.DoLoad, N: 4, Text: "?"}, api.Told{E: api.ErrArg}},
		{api.Do{Kind: api.DoLoad, N: -1, Text: source()}, api.Told{E: api.ErrArg}},
		{api.Do{Kind: api.DoLoad, N: 1, Text: "airx 2\n"}, api.Told{E: api.ErrForm, A: 1, B: 6}},
		{api.Do{Kind: api.DoLoad, N: 1, Text: ""}, api.Told{E: api.ErrForm, A: 1, B: 1}},
		{api.Do{Kind: api.DoLoad, N: 1, Text: "a\n b"}, api.Told{E: api.ErrLex, A: 2, B: 1}},
		{api.Do{Kind: api.DoLoad, N: 1, Text: strings.Replace(source(), "i<=10 i-n", "i<=9 i-n", 1)}, api.Told{E: api.ErrZone, A: strings.Count(source(), "\n") + 1, B: 1}},
		{api.Do{Kind: api.DoLoad, N: 1, Text: strings.Replace(source(), "i<=10 i-n<=1099511627786", "i<=9 i-n<=1099511627785", 1)}, api.Told{E: api.ErrSound, A: strings.Count(source(), "\n") + 1, B: 1}},
		{api.Do{Kind: api.DoTake, N: 4, Bytes: b}, api.Told{E: api.ErrArg}},
		{api.Do{Kind: api.DoTake, N: 1, Bytes: bad}, api.Told{E: takeErr, A: place}},
		{api.Do{Kind: api.DoTake, N: 1}, api.Told{E: api.ErrHead}},
		{api.Do{Kind: api.DoGive, N: 4}, api.Told{E: api.ErrArg}},
		{api.Do{Kind: api.DoGive, N: 0}, api.Told{E: api.ErrNone}},
		{api.Do{Kind: api.DoMerge, N: 4, M: 0}, api.Told{E: api.ErrArg}},
		{api.Do{Kind: api.DoMerge, N: 0, M: -1}, api.Told{E: api.ErrArg}},
		{api.Do{Kind: api.DoMerge, N: 0, M: 1}, api.Told{E: api.ErrNone}},
		{api.Do{Kind: api.DoMerge, N: 1, M: 0}, api.Told{E: api.ErrNone}},
		{api.Do{Kind: api.DoTell, N: 5, M: 7}, api.Told{E: api.ErrArg}},
		{api.Do{Kind: api.DoTell, N: 2, M: 7}, api.Told{E: api.ErrNone}},
		{api.Do{Kind: api.DoTell, N: 1, M: 2}, api.Told{E: api.ErrArg}},
		{api.Do{Kind: api.DoTell, N: 1, M: -1}, api.Told{E: api.ErrArg}},
		{api.Do{Kind: api.DoKeep, N: 9, Text: "\n"}, api.Told{E: api.ErrArg}},
		{api.Do{Kind: api.DoKeep, N: 0, Text: "\n"}, api.Told{E: api.ErrNone}},
		{api.Do{Kind: api.DoKeep, N: 1, Text: "\n"}, api.Told{E: api.ErrMark}},
		{api.Do{Kind: api.DoSplit, N: math.MaxInt}, api.Told{E: api.ErrArg}},
		{api.Do{Kind: api.DoSplit, N: 3}, api.Told{E: api.ErrNone}},
		{api.Do{Kind: api.DoBase, N: math.MinInt}, api.Told{E: api.ErrArg}},
		{api.Do{Kind: api.DoBase, N: 3}, api.Told{E: api.ErrNone}},
		{api.Do{Kind: 0}, api.Told{E: api.ErrArg}},
		{api.Do{Kind: 17}, api.Told{E: api.ErrArg}},
		{api.Do{Kind: -1}, api.Told{E: api.ErrArg}},
	} {
		if got := x.Do(c.d); !script.Same(got, c.want) {
			t.Errorf("%d: %v, want %v", k, got, c.want)
		}
	}
	in(t, x, 1, loaded(t, source()))
	if _, ok := x.Slot(0); ok || len(x.Entries()) != 0 {
		t.Error("something was done")
	}
	other := strings.Replace(source(), "program count", "program other", 1)
	x.Do(api.Do{Kind: api.DoLoad, N: 2, Text: other})
	tells(t, x, api.Do{Kind: api.DoMerge, N: 1, M: 2}, api.Told{E: api.ErrMerge})
	in(t, x, 1, loaded(t, source()))
}

func TestKeepSplit(t *testing.T) {
	x := script.New()
	x.Do(api.Do{Kind: api.DoLoad, N: 0, Text: wide()})
	tells(t, x, api.Do{Kind: api.DoSplit, N: 0}, api.Told{A: 0, B: 3})
	tells(t, x, api.Do{Kind: api.DoKeep, N: 0, Text: "known"}, api.Told{A: 3, B: 4})
	tells(t, x, api.Do{Kind: api.DoSplit, N: 0}, api.Told{A: 3, B: 0})
	r := loaded(t, wide())
	of, _ := base.Of(r.Alarms, "known")
	r.Marks, _ = base.Union(r.Marks, of)
	in(t, x, 0, r)
	if result.Check(r) != api.OK {
		t.Error("not right")
	}
	tells(t, x, api.Do{Kind: api.DoKeep, N: 0, Text: "a"}, api.Told{A: 3, B: 4}) // the greater note stays
	in(t, x, 0, r)
	// Too many marks are none at all.
	full := loaded(t, source())
	for i := range 1022 {
		full.Marks = append(full.Marks, api.Mark{Finger: uint64(i)})
	}
	b, e := bin.Put(full)
	if e != api.OK {
		t.Fatal(e)
	}
	x.Do(api.Do{Kind: api.DoTake, N: 1, Bytes: b})
	tells(t, x, api.Do{Kind: api.DoKeep, N: 1}, api.Told{E: api.ErrLong})
	in(t, x, 1, full)
}

func TestDatabase(t *testing.T) {
	x := script.New()
	r := loaded(t, source())
	f := finger.Of(r.Alarms)
	x.Do(api.Do{Kind: api.DoLoad, N: 0, Text: source()})
	var l []api.Entry
	do := func(d api.Do, c api.Cmd, changes int) {
		t.Helper()
		batch, e := fold.Plan(l, c)
		if e != api.OK || len(batch) != changes {
			t.Fatal(e, batch)
		}
		l, _ = fold.All(l, batch)
		tells(t, x, d, api.Told{A: changes})
		if !fold.Same(x.Entries(), l) {
			t.Errorf("%v: %v, want %v", d, x.Entries(), l)
		}
	}
	do(api.Do{Kind: api.DoTell, N: 0}, api.Cmd{Kind: api.CmRun, Alarms: r.Alarms}, 3)
	do(api.Do{Kind: api.DoMute, Finger: f[0], Text: "why"}, api.Cmd{Kind: api.CmMute, Finger: f[0], Note: "why"}, 1)
	do(api.Do{Kind: api.DoTell, N: 0}, api.Cmd{Kind: api.CmRun, Alarms: r.Alarms}, 3)
	if e, _ := fold.Find(x.Entries(), f[0]); e.State != api.EnMuted || e.Count != 2 {
		t.Error("muted still, told twice:", e)
	}
	do(api.Do{Kind: api.DoDone, N: 3, M: 2, Finger: f[1]}, api.Cmd{Kind: api.CmDone, Finger: f[1]}, 1) // its N and M are no command's
	do(api.Do{Kind: api.DoOpen, N: -1, M: -1, Finger: f[0]}, api.Cmd{Kind: api.CmOpen, Finger: f[0]}, 1)
	do(api.Do{Kind: api.DoBase, N: 0}, api.Cmd{Kind: api.CmBase}, 0)
	x.Do(api.Do{Kind: api.DoKeep, N: 0, Text: "kept"})
	r, _ = x.Slot(0)
	do(api.Do{Kind: api.DoBase, N: 0}, api.Cmd{Kind: api.CmBase, Marks: r.Marks}, 3)
	do(api.Do{Kind: api.DoPack}, api.Cmd{Kind: api.CmPack}, 0)
	do(api.Do{Kind: api.DoOpen, Finger: f[2]}, api.Cmd{Kind: api.CmOpen, Finger: f[2]}, 1)
	// Another program has none of these alarms: what is open is done with.
	other := strings.ReplaceAll(source(), "main", "other")
	x.Do(api.Do{Kind: api.DoLoad, N: 1, Text: other})
	do(api.Do{Kind: api.DoTell, N: 1, M: 1}, api.Cmd{Kind: api.CmRun, N: 1, Alarms: loaded(t, other).Alarms}, 4)
	for k, c := range []struct {
		d    api.Do
		want api.Errno
	}{
		{api.Do{Kind: api.DoMute, Finger: 5, Text: "\n"}, api.ErrMark},
		{api.Do{Kind: api.DoMute, Finger: 5}, api.ErrNone},
		{api.Do{Kind: api.DoOpen, Finger: 5}, api.ErrNone},
		{api.Do{Kind: api.DoDone, Finger: f[2]}, api.ErrOnce},
	} {
		tells(t, x, c.d, api.Told{E: c.want})
		if !fold.Same(x.Entries(), l) {
			t.Error("changed by", k)
		}
	}
	x.Entries()[0].Count = 77
	if !fold.Same(x.Entries(), l) {
		t.Error("shared")
	}
	tells(t, x, api.Do{Kind: api.DoWake}, api.Told{A: 2})
	if !fold.Same(x.Entries(), l) {
		t.Error("opened again:", x.Entries())
	}
}

func TestAsk(t *testing.T) {
	x := script.New()
	tells(t, x, api.Do{Kind: api.DoAsk, Text: "all"}, api.Told{})
	x.Do(api.Do{Kind: api.DoLoad, N: 0, Text: source()})
	x.Do(api.Do{Kind: api.DoTell, N: 0})
	for _, s := range []string{"all", "kind = diff by line back", "line > 4", "all by line from 1 most 1", "not kind = diff", "expr ~ \"zzz\""} {
		q, _, e := parse.Parse(s)
		p, e2 := eval.Run(x.Entries(), q)
		if e != api.OK || e2 != api.OK {
			t.Fatal(s, e, e2)
		}
		tells(t, x, api.Do{Kind: api.DoAsk, Text: s}, api.Told{A: p.All, Entries: p.Entries})
	}
	for _, s := range []string{"all ", "line = x", "all\n", "not", strings.Repeat("not ", 40) + "all", strings.Repeat("x", 1<<15+1)} {
		_, col, e := parse.Parse(s)
		if e == api.OK {
			t.Fatal(s)
		}
		tells(t, x, api.Do{Kind: api.DoAsk, Text: s}, api.Told{E: e, A: col})
	}
	// Without power it is still told what there was.
	told := x.Do(api.Do{Kind: api.DoAsk, Text: "all"})
	x.Do(api.Do{Kind: api.DoArm, N: 0})
	tells(t, x, api.Do{Kind: api.DoPack}, api.Told{E: api.ErrOff})
	tells(t, x, api.Do{Kind: api.DoAsk, Text: "all"}, told)
}

func TestDisk(t *testing.T) {
	x := script.New()
	x.Do(api.Do{Kind: api.DoLoad, N: 0, Text: source()})
	tells(t, x, api.Do{Kind: api.DoArm, N: 3}, api.Told{})
	tells(t, x, api.Do{Kind: api.DoTell, N: 0}, api.Told{E: api.ErrOff})
	tells(t, x, api.Do{Kind: api.DoTell, N: 0}, api.Told{E: api.ErrOff})
	tells(t, x, api.Do{Kind: api.DoWake}, api.Told{A: 1, B: 3})
	tells(t, x, api.Do{Kind: api.DoTell, N: 0}, api.Told{A: 3})
	l := x.Entries()
	tells(t, x, api.Do{Kind: api.DoWake}, api.Told{A: 1})
	tells(t, x, api.Do{Kind: api.DoPack}, api.Told{})
	tells(t, x, api.Do{Kind: api.DoWake}, api.Told{A: 2})
	if !fold.Same(x.Entries(), l) {
		t.Error("packed:", x.Entries())
	}
	for k, d := range []api.Do{{N: 2}, {N: -1}, {N: 0, M: -1}, {N: 0, M: math.MaxInt}, {N: 1, M: 1 << 21}} {
		d.Kind = api.DoSpoil
		if got := x.Do(d); !script.Same(got, api.Told{E: api.ErrArg}) {
			t.Errorf("%d: %v", k, got)
		}
	}
	tells(t, x, api.Do{Kind: api.DoSpoil, N: 1, Bytes: make([]byte, api.MaxFiles+1)}, api.Told{E: api.ErrFull})
	tells(t, x, api.Do{Kind: api.DoSpoil, N: 1, M: 3, Bytes: []byte("junk")}, api.Told{})
	if !fold.Same(x.Entries(), l) {
		t.Error("what is spoilt is told ahead of its time")
	}
	tells(t, x, api.Do{Kind: api.DoWake}, api.Told{A: 1}) // the other file
	if !fold.Same(x.Entries(), l) {
		t.Error("of the other file:", x.Entries())
	}
	tells(t, x, api.Do{Kind: api.DoSpoil, N: 0}, api.Told{})
	tells(t, x, api.Do{Kind: api.DoWake}, api.Told{A: 1})
	if len(x.Entries()) != 0 {
		t.Error("of nothing:", x.Entries())
	}
	in(t, x, 0, loaded(t, source()))
}

func TestNil(t *testing.T) {
	var x *script.Desk
	tells(t, x, api.Do{Kind: api.DoPack}, api.Told{E: api.ErrShut})
	tells(t, x, api.Do{}, api.Told{E: api.ErrShut})
	if _, ok := x.Slot(0); ok || len(x.Entries()) != 0 {
		t.Error("of nil")
	}
}

func TestRun(t *testing.T) {
	l := []api.Do{{Kind: api.DoLoad, N: 0, Text: source()}, {Kind: api.DoTell, N: 0}, {}, {Kind: api.DoAsk, Text: "all"}, {Kind: api.DoGive, N: 0}, {Kind: api.DoArm, N: 1}, {Kind: api.DoPack}, {Kind: api.DoPack}, {Kind: api.DoWake}}
	x := script.New()
	var want []api.Told
	for _, d := range l {
		want = append(want, x.Do(d))
	}
	got, e := script.Run(l)
	if e != api.OK || !slices.EqualFunc(got, want, script.Same) || want[7].E != api.ErrOff {
		t.Errorf("%v, %d, want %v", got, e, want)
	}
	many := slices.Repeat([]api.Do{{Kind: api.DoArm, N: 9}}, 201)
	if got, e := script.Run(many); e != api.ErrLong || len(got) != 0 {
		t.Error("too many:", e)
	}
	if got, e := script.Run(many[:200]); e != api.OK || len(got) != 200 {
		t.Error("as many as can be:", e)
	}
	if got, e := script.Run(nil); e != api.OK || len(got) != 0 {
		t.Error("none:", e)
	}
}

func TestSame(t *testing.T) {
	told := func() api.Told {
		return api.Told{E: 1, A: 2, B: 3, Entries: []api.Entry{{Finger: 4}}, Bytes: []byte{5}}
	}
	for k, change := range []func(*api.Told){func(t *api.Told) { t.E = 0 }, func(t *api.Told) { t.A = 0 }, func(t *api.Told) { t.B = 0 }, func(t *api.Told) { t.Entries[0].Note = "x" }, func(t *api.Told) { t.Entries = nil }, func(t *api.Told) { t.Bytes[0] = 6 }, func(t *api.Told) { t.Bytes = nil }} {
		x := told()
		change(&x)
		if script.Same(x, told()) || script.Same(told(), x) {
			t.Errorf("%d: Same", k)
		}
	}
	if !script.Same(told(), told()) || !script.Same(api.Told{}, api.Told{Entries: []api.Entry{}, Bytes: []byte{}}) {
		t.Error("Same")
	}
}
