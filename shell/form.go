package shell

import (
	"strconv"
	"strings"

	"warrantor/api"
	"warrantor/fnv"
	"warrantor/lex"
	"warrantor/val"
)

// form is how what stands behind the first word of a line is written, and read; false, if it can not stand there.
type form struct {
	kind  int
	write func(d api.Do) []api.Tok
	read  func(l []api.Tok) (api.Do, bool)
}

// forms are the forms by their first words.
func forms() map[string]form {
	return map[string]form{
		"load":  of(api.DoLoad, number(slotN)),
		"take":  of(api.DoTake, number(slotN), hex()),
		"give":  of(api.DoGive, number(slotN)),
		"merge": of(api.DoMerge, number(slotN), number(slotM)),
		"tell":  tell(),
		"keep":  of(api.DoKeep, number(slotN), quoted()),
		"split": of(api.DoSplit, number(slotN)),
		"base":  of(api.DoBase, number(slotN)),
		"mute":  of(api.DoMute, finger(), quoted()),
		"open":  of(api.DoOpen, finger()),
		"done":  of(api.DoDone, finger()),
		"pack":  of(api.DoPack),
		"ask":   of(api.DoAsk, quoted()),
		"arm":   of(api.DoArm, number(slotN)),
		"spoil": of(api.DoSpoil, number(slotN), number(slotM), hex()),
		"wake":  of(api.DoWake),
	}
}

// formOf tells the first word of a kind, and its form.
func formOf(known map[string]form, kind int) (string, form, bool) {
	for word, f := range known {
		if f.kind == kind {
			return word, f, true
		}
	}
	return "", form{}, false
}

// part is how one thing of a line is written, and read.
type part struct {
	write func(d api.Do) api.Tok
	read  func(d *api.Do, t api.Tok) bool
}

// of tells the form of a kind whose lines have these parts.
func of(kind int, parts ...part) form {
	write := func(d api.Do) []api.Tok {
		var l []api.Tok
		for _, p := range parts {
			l = append(l, p.write(d))
		}
		return l
	}
	read := func(l []api.Tok) (api.Do, bool) {
		d := api.Do{Kind: kind}
		if len(l) != len(parts) {
			return api.Do{}, false
		}
		for i, p := range parts {
			if !p.read(&d, l[i]) {
				return api.Do{}, false
			}
		}
		return d, true
	}
	return form{kind, write, read}
}

// sweep is the word by which a run is done with what is open and was not told.
const sweep = "sweep"

// tell tells the form of DoTell, at whose end a word may stand.
func tell() form {
	plain := of(api.DoTell, number(slotN))
	write := func(d api.Do) []api.Tok {
		l := plain.write(d)
		if d.M == 1 {
			l = append(l, word(sweep))
		}
		return l
	}
	read := func(l []api.Tok) (api.Do, bool) {
		n := len(l)
		if n < 2 || l[n-1].Kind != api.TokWord || l[n-1].Text != sweep {
			return plain.read(l)
		}
		d, ok := plain.read(l[:n-1])
		if ok {
			d.M = 1
		}
		return d, ok
	}
	return form{api.DoTell, write, read}
}

func word(s string) api.Tok { return api.Tok{Kind: api.TokWord, Text: s} }

func slotN(d *api.Do) *int { return &d.N }

func slotM(d *api.Do) *int { return &d.M }

// number is digits, of one of the two numbers.
func number(which func(*api.Do) *int) part {
	return part{
		write: func(d api.Do) api.Tok { return word(strconv.Itoa(*which(&d))) },
		read: func(d *api.Do, t api.Tok) bool {
			n, e := val.Parse(t.Text)
			*which(d) = n
			return t.Kind == api.TokWord && e == api.OK && n >= 0 && n <= api.MaxLine
		},
	}
}

// finger is the text of a fingerprint.
func finger() part {
	return part{
		write: func(d api.Do) api.Tok { return word(fnv.Show(d.Finger)) },
		read: func(d *api.Do, t api.Tok) bool {
			f, e := fnv.Parse(t.Text)
			d.Finger = f
			return t.Kind == api.TokWord && e == api.OK
		},
	}
}

// quoted is Text between quotes.
func quoted() part {
	return part{
		write: func(d api.Do) api.Tok { return api.Tok{Kind: api.TokText, Text: d.Text} },
		read: func(d *api.Do, t api.Tok) bool {
			d.Text = t.Text
			return t.Kind == api.TokText
		},
	}
}

// digits are those of base sixteen.
const digits = "0123456789abcdef"

// hex is Bytes between quotes, two digits each.
func hex() part {
	return part{
		write: func(d api.Do) api.Tok { return api.Tok{Kind: api.TokText, Text: hexOf(d.Bytes)} },
		read: func(d *api.Do, t api.Tok) bool {
			b, ok := bytesOf(t.Text)
			d.Bytes = b
			return t.Kind == api.TokText && ok
		},
	}
}

// hexOf tells the digits of bytes.
func hexOf(b []byte) string {
	out := make([]byte, 0, 2*len(b))
	for _, c := range b {
		out = append(out, digits[c>>4], digits[c&15])
	}
	return string(out)
}

// bytesOf tells the bytes of digits.
func bytesOf(s string) ([]byte, bool) {
	if len(s)%2 != 0 {
		return nil, false
	}
	var b []byte
	for i := 0; i < len(s); i += 2 {
		high, low := strings.IndexByte(digits, s[i]), strings.IndexByte(digits, s[i+1])
		if high < 0 || low < 0 {
			return nil, false
		}
		b = append(b, byte(high<<4|low))
	}
	return b, true
}

// Tell tells what came of something as lines.
func Tell(t api.Told) string {
	var b strings.Builder
	if t.E == api.OK {
		line(&b, "ok", strconv.Itoa(t.A), strconv.Itoa(t.B))
	} else {
		line(&b, "error", strconv.Itoa(int(t.E)), strconv.Itoa(t.A), strconv.Itoa(t.B))
	}
	for _, e := range t.Entries {
		a := e.Alarm
		line(&b, "entry", fnv.Show(e.Finger), named(e.State, "done", "open", "muted"), strconv.Itoa(e.Count),
			named(a.Kind, "diff", "upper", "lower"), named(a.Sev, "may", "must"),
			a.Func, a.File, strconv.Itoa(a.Line), lex.Quote(a.Expr), lex.Quote(e.Note))
	}
	if len(t.Bytes) > 0 {
		line(&b, "bytes", lex.Quote(hexOf(t.Bytes)))
	}
	return b.String()
}

// line writes a line of words.
func line(b *strings.Builder, words ...string) {
	b.WriteString(strings.Join(words, " "))
	b.WriteString("\n")
}

// named tells the name of a number from 1 on; digits, if it has none.
func named(n int, names ...string) string {
	if n < 1 || n > len(names) {
		return strconv.Itoa(n)
	}
	return names[n-1]
}
