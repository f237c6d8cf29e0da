package shell_test

import (
	"bytes"
	"math/rand"
	"slices"
	"strings"
	"testing"

	"warrantor/api"
	"warrantor/script"
	"warrantor/shell"
)

// dos are things that are told, and their lines.
var dos = []struct {
	d api.Do
	s string
}{
	{api.Do{Kind: api.DoLoad, N: 3, Text: "end\n"}, "load 3\nend\n"},
	{api.Do{Kind: api.DoLoad, Text: "airx 1\n\n \xff\"\nends\n end\nend\n"}, "load 0\nairx 1\n\n \xff\"\nends\n end\nend\n"},
	{api.Do{Kind: api.DoTake, N: 1, Bytes: []byte{0, 171, 255}}, "take 1 \"00abff\"\n"},
	{api.Do{Kind: api.DoTake, N: 1048576}, "take 1048576 \"\"\n"},
	{api.Do{Kind: api.DoGive, N: 2}, "give 2\n"},
	{api.Do{Kind: api.DoMerge, N: 0, M: 3}, "merge 0 3\n"},
	{api.Do{Kind: api.DoTell, N: 1}, "tell 1\n"},
	{api.Do{Kind: api.DoTell, N: 1, M: 1}, "tell 1 sweep\n"},
	{api.Do{Kind: api.DoKeep, N: 0, Text: "a \"note\"\\"}, "keep 0 \"a \\\"note\\\"\\\\\"\n"},
	{api.Do{Kind: api.DoKeep, N: 0}, "keep 0 \"\"\n"},
	{api.Do{Kind: api.DoSplit, N: 5}, "split 5\n"},
	{api.Do{Kind: api.DoBase, N: 0}, "base 0\n"},
	{api.Do{Kind: api.DoMute, Finger: 0xabc, Text: "x"}, "mute 0000000000000abc \"x\"\n"},
	{api.Do{Kind: api.DoOpen, Finger: 1<<64 - 1}, "open ffffffffffffffff\n"},
	{api.Do{Kind: api.DoDone}, "done 0000000000000000\n"},
	{api.Do{Kind: api.DoPack}, "pack\n"},
	{api.Do{Kind: api.DoAsk, Text: "state = open and not file ^ \"lib/\""}, "ask \"state = open and not file ^ \\\"lib/\\\"\"\n"},
	{api.Do{Kind: api.DoArm, N: 3}, "arm 3\n"},
	{api.Do{Kind: api.DoSpoil, N: 1, M: 20, Bytes: []byte{7}}, "spoil 1 20 \"07\"\n"},
	{api.Do{Kind: api.DoWake}, "wake\n"},
}

func same(a, b []api.Do) bool {
	return slices.EqualFunc(a, b, func(x, y api.Do) bool {
		return x.Kind == y.Kind && x.N == y.N && x.M == y.M && x.Finger == y.Finger && x.Text == y.Text && bytes.Equal(x.Bytes, y.Bytes)
	})
}

func TestShowParse(t *testing.T) {
	var l []api.Do
	all := ""
	for _, c := range dos {
		one := []api.Do{c.d}
		if s, e := shell.Show(one); s != c.s || e != api.OK {
			t.Errorf("%v is shown as %q, %d", c.d, s, e)
		}
		got, n, e := shell.Parse(c.s)
		if e != api.OK || n != strings.Count(c.s, "\n") || !same(got, one) {
			t.Errorf("Parse(%q) = %v, %d, %d", c.s, got, n, e)
		}
		l = append(l, c.d)
		all += c.s
	}
	s, e := shell.Show(l)
	got, n, e2 := shell.Parse(all)
	if s != all || e != api.OK || e2 != api.OK || n != strings.Count(all, "\n") || !same(got, l) {
		t.Errorf("all: %q, %d, %v, %d", s, e, got, e2)
	}
	if s, e := shell.Show(nil); s != "" || e != api.OK {
		t.Error("of none:", s, e)
	}
	if l, n, e := shell.Parse(""); len(l) != 0 || n != 0 || e != api.OK {
		t.Error("of nothing:", l, n, e)
	}
}

func TestShowWrong(t *testing.T) {
	// What a line does not tell must be zero.
	uses := map[int]string{api.DoLoad: "NT", api.DoTake: "NB", api.DoGive: "N", api.DoMerge: "NM", api.DoTell: "NM", api.DoKeep: "NT", api.DoSplit: "N", api.DoBase: "N", api.DoMute: "FT", api.DoOpen: "F", api.DoDone: "F", api.DoAsk: "T", api.DoArm: "N", api.DoSpoil: "NMB"}
	for kind := api.DoLoad; kind <= api.DoWake; kind++ {
		for field, change := range map[string]func(*api.Do){
			"N": func(d *api.Do) { d.N = 1 },
			"M": func(d *api.Do) { d.M = 1 },
			"F": func(d *api.Do) { d.Finger = 1 },
			"T": func(d *api.Do) { d.Text = "end\n" },
			"B": func(d *api.Do) { d.Bytes = []byte{1} },
		} {
			d := api.Do{Kind: kind}
			if kind == api.DoLoad {
				d.Text = "end\n"
			}
			change(&d)
			if field == "T" && kind != api.DoLoad {
				d.Text = "text"
			}
			want := api.ErrShell
			if strings.Contains(uses[kind], field) {
				want = api.OK
			}
			if s, e := shell.Show([]api.Do{d}); e != want || (s == "") != (e != api.OK) {
				t.Errorf("%v: %q, %d, want %d", d, s, e, want)
			}
		}
	}
	long := strings.Repeat("x", api.MaxSource)
	for k, c := range []struct {
		l []api.Do
		e api.Errno
	}{
		{[]api.Do{{}}, api.ErrShell},
		{[]api.Do{{Kind: 17}}, api.ErrShell},
		{[]api.Do{{Kind: -1}}, api.ErrShell},
		{[]api.Do{{Kind: api.DoPack}, {Kind: api.DoGive, N: -1}}, api.ErrShell},
		{[]api.Do{{Kind: api.DoGive, N: 1<<20 + 1}}, api.ErrShell},
		{[]api.Do{{Kind: api.DoMerge, N: 0, M: 1<<20 + 1}}, api.ErrShell},
		{[]api.Do{{Kind: api.DoTell, M: 2}}, api.ErrShell},
		{[]api.Do{{Kind: api.DoTell, M: -1}}, api.ErrShell},
		{[]api.Do{{Kind: api.DoKeep, Text: "a\nb"}}, api.ErrShell},
		{[]api.Do{{Kind: api.DoAsk, Text: "\x7f"}}, api.ErrShell},
		{[]api.Do{{Kind: api.DoMute, Text: "\u00e9"}}, api.ErrShell},
		{[]api.Do{{Kind: api.DoLoad}}, api.ErrShell},
		{[]api.Do{{Kind: api.DoLoad, Text: "end"}}, api.ErrShell},
		{[]api.Do{{Kind: api.DoLoad, Text: "a\n"}}, api.ErrShell},
		{[]api.Do{{Kind: api.DoLoad, Text: "end\nend\n"}}, api.ErrShell},
		{[]api.Do{{Kind: api.DoLoad, Text: "end\na\n"}}, api.ErrShell},
		{[]api.Do{{Kind: api.DoLoad, Text: "end\na"}}, api.ErrShell},
		{[]api.Do{{Kind: api.DoLoad, Text: "a\n end\n"}}, api.ErrShell},
		{slices.Repeat([]api.Do{{Kind: api.DoPack}}, 200), api.OK},
		{slices.Repeat([]api.Do{{Kind: api.DoPack}}, 201), api.ErrLong},
		{append(slices.Repeat([]api.Do{{Kind: api.DoPack}}, 300), api.Do{}), api.ErrShell},
		{[]api.Do{{Kind: api.DoAsk, Text: long}}, api.ErrLong},
		{[]api.Do{{Kind: api.DoAsk, Text: long[:api.MaxSource-7]}}, api.OK}, // ask, a blank, two quotes and a line's end
		{[]api.Do{{Kind: api.DoAsk, Text: long[:api.MaxSource-6]}}, api.ErrLong},
		{[]api.Do{{Kind: api.DoLoad, Text: long[:api.MaxSource-12] + "\nend\n"}}, api.OK},
		{[]api.Do{{Kind: api.DoLoad, Text: long[:api.MaxSource-11] + "\nend\n"}}, api.ErrLong},
		{[]api.Do{{Kind: api.DoTake, Bytes: make([]byte, api.MaxSource)}}, api.ErrLong},
		{[]api.Do{{Kind: api.DoAsk, Text: long}, {}}, api.ErrShell},
		{[]api.Do{{Kind: api.DoAsk, Text: long[:api.MaxSource-7]}, {Kind: api.DoPack}}, api.ErrLong},
	} {
		s, e := shell.Show(c.l)
		if e != c.e || (s == "") != (e != api.OK) {
			t.Errorf("%d: %d bytes, %d, want %d", k, len(s), e, c.e)
		}
		if e != api.OK {
			continue
		}
		if back, _, e := shell.Parse(s); e != api.OK || !same(back, c.l) {
			t.Errorf("%d: parsed as something else, %d", k, e)
		}
	}
}

func TestParseWrong(t *testing.T) {
	packs := strings.Repeat("pack\n", 200)
	for _, c := range []struct {
		s string
		n int
		e api.Errno
	}{
		{strings.Repeat("x", api.MaxSource+1), 0, api.ErrLong},
		{"\n", 1, api.ErrShell},
		{"pack", 1, api.ErrShell},
		{"pack\nwake", 2, api.ErrShell},
		{"pack \n", 1, api.ErrShell},
		{" pack\n", 1, api.ErrShell},
		{"pack\n\nwake\n", 2, api.ErrShell},
		{"pack pack\n", 1, api.ErrShell},
		{"Pack\n", 1, api.ErrShell},
		{"\"pack\"\n", 1, api.ErrShell},
		{"end\n", 1, api.ErrShell},
		{"wake\npack\nfly\n", 3, api.ErrShell},
		{"give\n", 1, api.ErrShell},
		{"give x\n", 1, api.ErrShell},
		{"give 01\n", 1, api.ErrShell},
		{"give -1\n", 1, api.ErrShell},
		{"give inf\n", 1, api.ErrShell},
		{"give 1048577\n", 1, api.ErrShell},
		{"give \"1\"\n", 1, api.ErrShell},
		{"give 1 1\n", 1, api.ErrShell},
		{"give  1\n", 1, api.ErrShell},
		{"merge 1\n", 1, api.ErrShell},
		{"merge 1 2 3\n", 1, api.ErrShell},
		{"tell\n", 1, api.ErrShell},
		{"tell sweep\n", 1, api.ErrShell},
		{"tell 1 Sweep\n", 1, api.ErrShell},
		{"tell 1 \"sweep\"\n", 1, api.ErrShell},
		{"tell 1 sweep sweep\n", 1, api.ErrShell},
		{"tell 1 0\n", 1, api.ErrShell},
		{"take 1 00\n", 1, api.ErrShell},
		{"take 1 \"0\"\n", 1, api.ErrShell},
		{"take 1 \"0g\"\n", 1, api.ErrShell},
		{"take 1 \"g0\"\n", 1, api.ErrShell},
		{"take 1 \"0A\"\n", 1, api.ErrShell},
		{"take 1 \"00 00\"\n", 1, api.ErrShell},
		{"take \"00\"\n", 1, api.ErrShell},
		{"keep 1 note\n", 1, api.ErrShell},
		{"keep 1\n", 1, api.ErrShell},
		{"keep 1 \"a\n", 1, api.ErrShell},
		{"keep 1 \"a\x01\"\n", 1, api.ErrShell},
		{"mute abc \"x\"\n", 1, api.ErrShell},
		{"mute 0000000000000ABC \"x\"\n", 1, api.ErrShell},
		{"mute \"0000000000000abc\" \"x\"\n", 1, api.ErrShell},
		{"open\n", 1, api.ErrShell},
		{"done 000000000000000\n", 1, api.ErrShell},
		{"ask all\n", 1, api.ErrShell},
		{"ask\n", 1, api.ErrShell},
		{"arm x\n", 1, api.ErrShell},
		{"spoil 1 \"00\"\n", 1, api.ErrShell},
		{"spoil 1 2 3 \"00\"\n", 1, api.ErrShell},
		{"wake up\n", 1, api.ErrShell},
		{"load\nend\n", 1, api.ErrShell},
		{"load x\nend\n", 1, api.ErrShell},
		{"load 0 0\nend\n", 1, api.ErrShell},
		{"load 0\n", 2, api.ErrShell},
		{"load 0", 1, api.ErrShell},
		{"load 0\na\nb\n", 4, api.ErrShell},
		{"load 0\na\nb", 3, api.ErrShell},
		{"load 0\na\nend", 3, api.ErrShell},
		{"load 0\nend\nend\n", 3, api.ErrShell},
		{"pack\nload 0\nend\nload 1\nx\n", 6, api.ErrShell},
		{packs + "pack\n", 201, api.ErrLong},
		{packs + "pack\nfly\n", 201, api.ErrLong},
		{packs + "fly\n", 201, api.ErrShell},
		{packs + "pack", 201, api.ErrShell},
		{packs + "load 0\nend\n", 201, api.ErrLong},
		{"load 0\nx\nend\n" + packs, 203, api.ErrLong},
	} {
		l, n, e := shell.Parse(c.s)
		if e != c.e || n != c.n || len(l) != 0 {
			t.Errorf("Parse(%.30q) = %d, %d, want %d, %d", c.s, n, e, c.n, c.e)
		}
		s, n, e := shell.Run(c.s)
		if e != c.e || n != c.n || s != "" {
			t.Errorf("Run(%.30q) = %q, %d, %d", c.s, s, n, e)
		}
	}
	if l, n, e := shell.Parse(packs); e != api.OK || n != 200 || len(l) != 200 {
		t.Error("as many as can be:", n, e)
	}
}

func TestTell(t *testing.T) {
	entry := api.Entry{Finger: 0xabc, Alarm: api.Alarm{Kind: api.AlUpper, Sev: api.SevMust, Func: "main", File: "lib/a.w", Line: 9, Expr: "i <= \"3\""}, State: api.EnMuted, Count: 5, Note: "a \\ note"}
	other := api.Entry{Alarm: api.Alarm{Kind: 4, Sev: -1, Func: "f", File: "a", Line: -3, Expr: "\n"}, State: 0, Count: -2}
	for k, c := range []struct {
		t api.Told
		s string
	}{
		{api.Told{}, "ok 0 0\n"},
		{api.Told{A: 3, B: 1048576}, "ok 3 1048576\n"},
		{api.Told{E: api.ErrOff}, "error 280 0 0\n"},
		{api.Told{E: api.ErrForm, A: 4, B: 7}, "error 220 4 7\n"},
		{api.Told{A: 1, Entries: []api.Entry{entry}}, "ok 1 0\nentry 0000000000000abc muted 5 upper must main lib/a.w 9 \"i <= \\\"3\\\"\" \"a \\\\ note\"\n"},
		{api.Told{A: 2, Entries: []api.Entry{other, entry}}, "ok 2 0\nentry 0000000000000000 0 -2 4 -1 f a -3 \"\" \"\"\nentry 0000000000000abc muted 5 upper must main lib/a.w 9 \"i <= \\\"3\\\"\" \"a \\\\ note\"\n"},
		{api.Told{A: 3, B: 2, Bytes: []byte{0, 0xab, 0xff}}, "ok 3 2\nbytes \"00abff\"\n"},
		{api.Told{E: 1, Entries: []api.Entry{other}, Bytes: []byte{16}}, "error 1 0 0\nentry 0000000000000000 0 -2 4 -1 f a -3 \"\" \"\"\nbytes \"10\"\n"},
	} {
		if s := shell.Tell(c.t); s != c.s {
			t.Errorf("%d: %q, want %q", k, s, c.s)
		}
	}
	for n, word := range []string{"done", "open", "muted"} {
		if s := shell.Tell(api.Told{Entries: []api.Entry{{State: n + 1}}}); !strings.Contains(s, " "+word+" ") {
			t.Errorf("%q has no %s", s, word)
		}
	}
	for n, word := range []string{"diff", "upper", "lower"} {
		if s := shell.Tell(api.Told{Entries: []api.Entry{{Alarm: api.Alarm{Kind: n + 1, Sev: 1}}}}); !strings.Contains(s, " "+word+" may ") {
			t.Errorf("%q has no %s", s, word)
		}
	}
}

const source = `airx 1
program p
vars x
point 0 f a 3
point 1 f a 9
edge 0 1 "check x <= 3"
edge 0 1 "check -x <= 0"
order "0 1"
first all
zone 0 all
zone 1 all
alarm upper may f a 3 "x <= 3"
alarm lower may f a 3 "-x <= 0"
end
`

func TestRun(t *testing.T) {
	lines := "load 0\n" + source + "tell 0\nask \"all by line most 1\"\ngive 0\narm 3\npack\nask \"x\"\nwake\nsplit 3\nfinish\n"
	if s, n, e := shell.Run(lines); s != "" || n != 24 || e != api.ErrShell {
		t.Errorf("%q, %d, %d", s, n, e)
	}
	lines = strings.TrimSuffix(lines, "finish\n")
	l, n, e := shell.Parse(lines)
	if e != api.OK {
		t.Fatal(n, e)
	}
	told, _ := script.Run(l)
	want := ""
	for _, x := range told {
		want += shell.Tell(x)
	}
	s, n, e := shell.Run(lines)
	if s != want || n != 23 || e != api.OK {
		t.Errorf("%q, %d, %d, want %q", s, n, e, want)
	}
	if !strings.HasPrefix(s, "ok 2 0\nok 2 0\nok 2 0\nentry ") || !strings.Contains(s, "\nok 0 0\nerror 280 0 0\nerror 320 1 0\nok 1 0\nerror 4 0 0\n") || !strings.Contains(s, "\nbytes \"41495258") {
		t.Errorf("%q", s)
	}
	if s, n, e := shell.Run("arm 3\n"); s != "ok 0 0\n" || n != 1 || e != api.OK {
		t.Error("the example:", s, n, e)
	}
	if s, n, e := shell.Run(""); s != "" || n != 0 || e != api.OK {
		t.Error("of nothing:", s, n, e)
	}
}

// What is parsed is shown as it was.
func TestChance(t *testing.T) {
	r := rand.New(rand.NewSource(1))
	words := []string{"load", "take", "give", "merge", "tell", "keep", "split", "base", "mute", "open", "done", "pack", "ask", "arm", "spoil", "wake", "end", "0", "1", "12", "sweep", "\"\"", "\"ab\"", "\"0f\"", "00000000000000ff"}
	right := 0
	for range 100000 {
		s := ""
		for range 1 + r.Intn(3) {
			var l []string
			for range 1 + r.Intn(4) {
				l = append(l, words[r.Intn(len(words))])
			}
			s += strings.Join(l, " ") + "\n"
		}
		l, n, e := shell.Parse(s)
		if e != api.OK {
			if e != api.ErrShell || n < 1 || n > strings.Count(s, "\n")+1 || len(l) != 0 {
				t.Fatalf("Parse(%q) = %d, %d", s, n, e)
			}
			continue
		}
		right++
		if back, e := shell.Show(l); back != s || e != api.OK || n != strings.Count(s, "\n") {
			t.Fatalf("%q is shown as %q, %d", s, back, e)
		}
	}
	if right < 500 {
		t.Error(right)
	}
}
