package script_test

import (
	"bytes"
	"math/rand"
	"slices"
	"strconv"
	"strings"
	"testing"

	"warrantor/alarm"
	"warrantor/api"
	"warrantor/base"
	"warrantor/bin"
	"warrantor/dbm"
	"warrantor/finger"
	"warrantor/fix"
	"warrantor/fold"
	"warrantor/merge"
	"warrantor/order"
	"warrantor/prog"
	"warrantor/result"
	"warrantor/run"
	"warrantor/script"
	"warrantor/shell"
	"warrantor/sound"
	"warrantor/text"
	"warrantor/zone"
)

func statement(r *rand.Rand) api.Stmt {
	for {
		s := api.Stmt{Kind: []int{1, 2, 2, 3, 4, 4, 5, 5}[r.Intn(8)], X: r.Intn(3), Y: r.Intn(3), C: r.Intn(13) - 5}
		switch s.Kind {
		case api.StSkip:
			s = api.Stmt{Kind: api.StSkip}
		case api.StAny:
			s.Y, s.D = 0, s.C+r.Intn(6)
		}
		if prog.Right(s, 2) {
			return s
		}
	}
}

// chance is any program, and a first zone of it.
func chance(r *rand.Rand) (api.Prog, api.Zone) {
	n := 2 + r.Intn(5)
	p := api.Prog{Name: "p", Vars: []string{"x", "y"}}
	for i := range n {
		p.Spots = append(p.Spots, api.Spot{Func: []string{"f", "g"}[r.Intn(2)], File: "a", Line: 10 * (i + 1)})
		p.Edges = append(p.Edges, api.Edge{From: i, To: (i + 1) % n, Stmt: statement(r)})
	}
	for range r.Intn(2 * n) {
		p.Edges = append(p.Edges, api.Edge{From: r.Intn(n), To: r.Intn(n), Stmt: statement(r)})
	}
	first, _ := zone.Box([]api.Itv{{Lo: -r.Intn(4), Hi: r.Intn(9)}, {Lo: -2, Hi: r.Intn(3)}})
	return p, first
}

// written is a result that somebody wrote who may err: some zones are more, or less, and alarms are those by them.
func written(r *rand.Rand, p api.Prog, first api.Zone) api.Result {
	w, _ := order.Of(p)
	zones, _, _ := fix.Solve(p, first, w, r.Intn(5), r.Intn(3))
	for range r.Intn(3) {
		i := r.Intn(len(zones))
		if r.Intn(2) == 0 {
			zones[i], _ = zone.Limit(zones[i], r.Intn(3), r.Intn(3), r.Intn(12)-1)
		} else {
			zones[i], _ = dbm.All(2)
		}
	}
	alarms, _ := alarm.Of(p, zones)
	if len(alarms) > 0 && r.Intn(4) == 0 {
		alarms = alarms[1:]
	}
	return api.Result{Prog: p, First: first, Wto: w, Zones: zones, Alarms: alarms}
}

// lies tells a result's text, right or not: that of a right one, with its zones and alarms in place of others.
func lies(t *testing.T, x api.Result) string {
	t.Helper()
	honest, e := result.Make(x.Prog, x.First, nil)
	if e != api.OK {
		t.Fatal(e)
	}
	s, _ := text.Put(honest)
	head, _, _ := strings.Cut(s, "\nzone 0 ")
	for i, z := range x.Zones {
		head += "\nzone " + strconv.Itoa(i)
		if len(z.M) == 0 {
			head += " none"
			continue
		}
		words, all := "", true
		for at, b := range z.M {
			names := []string{"", x.Prog.Vars[0], x.Prog.Vars[1]}
			i, j := at/3, at%3
			top := api.MaxVal
			if i > 0 && j > 0 {
				top *= 2
			}
			if i != j && b < top {
				all = false
				words += " " + strings.TrimSuffix(names[i]+"-"+names[j], "-") + "<=" + strconv.Itoa(b)
			}
		}
		if all {
			words = " all"
		}
		head += words
	}
	for _, a := range x.Alarms {
		head += "\nalarm " + []string{"diff", "upper", "lower"}[a.Kind-1] + " " + []string{"may", "must"}[a.Sev-1] + " " + a.Func + " " + a.File + " " + strconv.Itoa(a.Line) + " \"" + a.Expr + "\""
	}
	return head + "\nend\n"
}

// trusted fails, if a run of a result's program is at fault without an alarm, or elsewhere than in its zones.
func trusted(t *testing.T, r *rand.Rand, x api.Result) {
	t.Helper()
	v, ok := dbm.Point(x.First, r.Intn(3))
	if !ok {
		return
	}
	s := api.State{Vals: v}
	for range 40 {
		if !sound.Has(x.Prog, x.Zones, s) {
			t.Fatalf("%v is outside of %v", s, x.Zones)
		}
		c := api.Choice{Edge: r.Intn(len(x.Prog.Edges)), V: r.Intn(12) - 5}
		next, e := run.Step(x.Prog, s, c)
		switch e {
		case api.ErrFault:
			spot, stmt := x.Prog.Spots[s.Point], x.Prog.Edges[c.Edge].Stmt
			expr, _ := prog.Show(x.Prog.Vars, stmt)
			if !slices.ContainsFunc(x.Alarms, func(a api.Alarm) bool {
				return a.Line == spot.Line && a.Func == spot.Func && a.File == spot.File && "check "+a.Expr == expr
			}) {
				t.Fatalf("%v is at fault at %v without an alarm", s, stmt)
			}
		case api.OK:
			s = next
		}
	}
}

// P1: whatever is got may be trusted, whoever wrote it.
func TestTrust(t *testing.T) {
	r := rand.New(rand.NewSource(1))
	got, refused := 0, 0
	for range 600 {
		p, first := chance(r)
		x := written(r, p, first)
		desk := script.New()
		told := desk.Do(api.Do{Kind: api.DoLoad, Text: lies(t, x)})
		want := result.Check(x)
		if told.E != want {
			t.Fatalf("%d, want %d, of %s", told.E, want, lies(t, x))
		}
		if told.E != api.OK {
			refused++
			continue
		}
		got++
		y, _ := desk.Slot(0)
		if !result.Same(x, y) {
			t.Fatal("something else was got")
		}
		trusted(t, r, y)
	}
	if got < 100 || refused < 100 {
		t.Error(got, refused)
	}
}

// P2: a merge may be trusted as both, and has no more alarms than either.
func TestMerges(t *testing.T) {
	r := rand.New(rand.NewSource(2))
	merged := 0
	for range 400 {
		p, first := chance(r)
		a, b := written(r, p, first), written(r, p, first)
		desk := script.New()
		desk.Do(api.Do{Kind: api.DoLoad, N: 0, Text: lies(t, a)})
		desk.Do(api.Do{Kind: api.DoLoad, N: 1, Text: lies(t, b)})
		told := desk.Do(api.Do{Kind: api.DoMerge, N: 0, M: 1})
		if result.Check(a) != api.OK || result.Check(b) != api.OK {
			if told.E != api.ErrNone {
				t.Fatal(told)
			}
			continue
		}
		merged++
		m, _ := desk.Slot(0)
		if told.E != api.OK || len(m.Alarms) > min(len(a.Alarms), len(b.Alarms)) || result.Check(m) != api.OK {
			t.Fatal(told, len(m.Alarms))
		}
		for i, z := range m.Zones {
			inA, _ := zone.Leq(z, a.Zones[i])
			inB, _ := zone.Leq(z, b.Zones[i])
			if !inA || !inB {
				t.Fatal("a zone is not within both")
			}
		}
		trusted(t, r, m)
	}
	if merged < 50 {
		t.Error(merged)
	}
}

// P3: lines that move change no fingerprint.
func TestLines(t *testing.T) {
	r := rand.New(rand.NewSource(3))
	alarms := 0
	for range 200 {
		p, first := chance(r)
		x, e := result.Make(p, first, nil)
		if e != api.OK {
			t.Fatal(e)
		}
		marks, _ := base.Of(x.Alarms, "known")
		q := p
		q.Spots = slices.Clone(p.Spots)
		at := 0
		for i := range q.Spots { // the order of lines stays
			at += 1 + r.Intn(100)
			q.Spots[i].Line = at
		}
		y, _ := result.Make(q, first, marks)
		if !slices.Equal(finger.Of(x.Alarms), finger.Of(y.Alarms)) {
			t.Fatal("other fingerprints")
		}
		s, e := base.Match(marks, y.Alarms)
		if e != api.OK || len(s.Fresh)+len(s.Stale) != 0 || len(s.Known) != len(y.Alarms) {
			t.Fatal("not known:", s)
		}
		b, _ := bin.Put(y)
		desk := script.New()
		desk.Do(api.Do{Kind: api.DoTake, Bytes: b})
		tells(t, desk, api.Do{Kind: api.DoSplit}, api.Told{A: len(y.Alarms)})
		alarms += len(y.Alarms)
	}
	if alarms < 100 {
		t.Error(alarms)
	}
}

// P4: wherever the power goes, there are the entries of all commands that were told as done, or of one more.
func TestPower(t *testing.T) {
	f := finger.Of(loaded(t, source()).Alarms)
	cmds := []api.Do{
		{Kind: api.DoTell, N: 0},
		{Kind: api.DoMute, Finger: f[0], Text: "why"},
		{Kind: api.DoPack},
		{Kind: api.DoTell, N: 0, M: 1},
		{Kind: api.DoDone, Finger: f[1]},
		{Kind: api.DoPack},
		{Kind: api.DoOpen, Finger: f[0]},
	}
	want := [][]api.Entry{nil}
	free := script.New()
	free.Do(api.Do{Kind: api.DoLoad, N: 0, Text: source()})
	for _, d := range cmds {
		if told := free.Do(d); told.E != api.OK {
			t.Fatal(told)
		}
		want = append(want, free.Entries())
	}
	for k := 0; ; k++ {
		x := script.New()
		x.Do(api.Do{Kind: api.DoLoad, N: 0, Text: source()})
		x.Do(api.Do{Kind: api.DoArm, N: k})
		done := 0
		for _, d := range cmds {
			told := x.Do(d)
			if told.E == api.ErrOff {
				break
			}
			if told.E != api.OK {
				t.Fatal(told)
			}
			done++
		}
		told := x.Do(api.Do{Kind: api.DoAsk, Text: "all"})
		if !fold.Same(told.Entries, want[done]) {
			t.Fatalf("armed with %d: %v ahead of the power's return", k, told.Entries)
		}
		if told := x.Do(api.Do{Kind: api.DoWake}); told.E != api.OK {
			t.Fatal(told)
		}
		told = x.Do(api.Do{Kind: api.DoAsk, Text: "all"})
		if !fold.Same(told.Entries, want[done]) && !(done < len(cmds) && fold.Same(told.Entries, want[done+1])) {
			t.Fatalf("armed with %d: %v, want %v", k, told.Entries, want[done])
		}
		// It goes on as if nothing had been.
		rest := cmds[done:]
		if done < len(cmds) && !fold.Same(want[done], want[min(done+1, len(cmds))]) && fold.Same(told.Entries, want[done+1]) {
			rest = cmds[done+1:]
		}
		for _, d := range rest {
			if told := x.Do(d); told.E != api.OK {
				t.Fatal(k, told)
			}
		}
		if !fold.Same(x.Entries(), want[len(cmds)]) {
			t.Fatalf("armed with %d: %v at the end", k, x.Entries())
		}
		if done == len(cmds) {
			if k < 300 {
				t.Error("it costs too little:", k)
			}
			return
		}
	}
}

// P5: bytes and text of what stands in a slot are got by another desk as the same result.
func TestBothWays(t *testing.T) {
	r := rand.New(rand.NewSource(5))
	for range 150 {
		p, first := chance(r)
		x, y := script.New(), script.New()
		made, _ := result.Make(p, first, nil)
		s, _ := text.Put(made)
		x.Do(api.Do{Kind: api.DoLoad, N: 2, Text: s})
		x.Do(api.Do{Kind: api.DoKeep, N: 2, Text: "a \"note\""})
		x.Do(api.Do{Kind: api.DoMerge, N: 2, M: 2})
		stands, _ := x.Slot(2)
		told := x.Do(api.Do{Kind: api.DoGive, N: 2})
		s, e := text.Put(stands)
		if e != api.OK || told.A != len(told.Bytes) || told.B != len(s) {
			t.Fatal(told, e)
		}
		y.Do(api.Do{Kind: api.DoTake, N: 0, Bytes: told.Bytes})
		y.Do(api.Do{Kind: api.DoLoad, N: 1, Text: s})
		in(t, y, 0, stands)
		in(t, y, 1, stands)
		if again := y.Do(api.Do{Kind: api.DoGive, N: 1}); !script.Same(again, told) {
			t.Fatal("other bytes")
		}
		// One byte turned anywhere, they are none's.
		b := bytes.Clone(told.Bytes)
		b[r.Intn(len(b))] ^= byte(1 + r.Intn(255))
		if told := y.Do(api.Do{Kind: api.DoTake, N: 3, Bytes: b}); told.E == api.OK {
			t.Fatal("turned bytes are got")
		}
	}
}

// P6: desks that are told the same are the same, whatever else is asked of one of them in between.
func TestAlike(t *testing.T) {
	r := rand.New(rand.NewSource(6))
	f := finger.Of(loaded(t, source()).Alarms)
	any := func() api.Do {
		return []api.Do{
			{Kind: api.DoLoad, N: r.Intn(4), Text: source()},
			{Kind: api.DoLoad, N: r.Intn(4), Text: wide()},
			{Kind: api.DoMerge, N: r.Intn(4), M: r.Intn(4)},
			{Kind: api.DoTell, N: r.Intn(4), M: r.Intn(2)},
			{Kind: api.DoKeep, N: r.Intn(4), Text: "k"},
			{Kind: api.DoBase, N: r.Intn(4)},
			{Kind: api.DoMute, Finger: f[r.Intn(3)], Text: "m"},
			{Kind: api.DoOpen, Finger: f[r.Intn(3)]},
			{Kind: api.DoDone, Finger: f[r.Intn(3)]},
			{Kind: api.DoPack},
			{Kind: api.DoArm, N: r.Intn(400)},
			{Kind: api.DoSpoil, N: r.Intn(2), M: r.Intn(40), Bytes: []byte{1, 2, 3}},
			{Kind: api.DoWake},
		}[r.Intn(13)]
	}
	asks := []api.Do{{Kind: api.DoAsk, Text: "all"}, {Kind: api.DoAsk, Text: "?"}, {Kind: api.DoGive, N: 0}, {Kind: api.DoSplit, N: 1}, {}, {Kind: api.DoGive, N: 9}}
	for range 60 {
		x, y := script.New(), script.New()
		for range 30 {
			d := any()
			a := x.Do(d)
			for range r.Intn(3) {
				y.Do(asks[r.Intn(len(asks))])
				y.Slot(r.Intn(4))
				y.Entries()
			}
			if b := y.Do(d); !script.Same(a, b) {
				t.Fatalf("%v tells %v, and %v", d, a, b)
			}
			if !fold.Same(x.Entries(), y.Entries()) {
				t.Fatal("other entries")
			}
			for n := range 4 {
				p, ok := x.Slot(n)
				q, ok2 := y.Slot(n)
				if ok != ok2 || !result.Same(p, q) {
					t.Fatal("another result in", n)
				}
				if ok && result.Check(p) != api.OK {
					t.Fatal("not right:", n)
				}
			}
		}
	}
}

// The ten examples of the whole, as far as a desk tells them by lines.
func TestExamples(t *testing.T) {
	lines := "load 0\n" + source() + "tell 0\nask \"all by finger\"\n"
	s, _, e := shell.Run(lines)
	if e != api.OK || !strings.HasPrefix(s, "ok 3 0\nok 3 0\nok 3 0\n") || strings.Contains(s, "i <= 10") {
		t.Errorf("1: %q, %d", s, e)
	}
	s, _, e = shell.Run("arm 3\n" + lines + "wake\n")
	if e != api.OK || !strings.HasSuffix(s, "ok 1 3\n") || !strings.Contains(s, "error 280 0 0\n") {
		t.Errorf("8: %q, %d", s, e)
	}
	s, _, e = shell.Run(lines + "ask \"state = open and not file ^ \\\"lib/\\\" by line back most 2\"\npack\nwake\n")
	if e != api.OK || !strings.HasSuffix(s, "ok 0 0\nok 2 0\n") || strings.Count(s, "entry ") != 5 {
		t.Errorf("9, 10: %q, %d", s, e)
	}
	a, b := loaded(t, source()), loaded(t, source())
	a.Zones = slices.Clone(a.Zones)
	a.Zones[4], _ = zone.Box([]api.Itv{{Lo: -api.MaxVal, Hi: 12}, {Lo: -api.MaxVal, Hi: api.MaxVal}})
	b.Zones = slices.Clone(b.Zones)
	b.Zones[4], _ = zone.Box([]api.Itv{{Lo: 3, Hi: api.MaxVal}, {Lo: -api.MaxVal, Hi: api.MaxVal}})
	a.Alarms, _ = alarm.Of(a.Prog, a.Zones)
	b.Alarms, _ = alarm.Of(b.Prog, b.Zones)
	m, e := merge.Two(a, b)
	if i, _ := zone.Itv(m.Zones[4], 1); e != api.OK || i != (api.Itv{Lo: 3, Hi: 12}) {
		t.Errorf("6: %v, %d", i, e)
	}
	bad := source()
	for _, line := range []string{"zone 1 -i<=0 i<=10 i-n<=1099511627786", "zone 1 -i<=0 i<=9 i-n<=1099511627785"} {
		bad = strings.Replace(bad, "zone 1 -i<=0 i<=10 i-n<=1099511627786", line, 1)
	}
	if _, _, _, e := text.Get(bad); e != api.ErrSound {
		t.Errorf("2: %d", e)
	}
}
