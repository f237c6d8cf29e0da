package lex_test

import (
	"math/rand"
	"slices"
	"strings"
	"testing"

	"warrantor/api"
	"warrantor/lex"
)

func word(line, col int, s string) api.Tok {
	return api.Tok{Kind: api.TokWord, Line: line, Col: col, Text: s}
}

func text(line, col int, s string) api.Tok {
	return api.Tok{Kind: api.TokText, Line: line, Col: col, Text: s}
}

func end(line, col int) api.Tok { return api.Tok{Kind: api.TokEnd, Line: line, Col: col} }

func TestTokens(t *testing.T) {
	for _, c := range []struct {
		s     string
		want  []api.Tok
		lines int
	}{
		{"", nil, 0},
		{"a\n", []api.Tok{word(1, 1, "a"), end(1, 2)}, 1},
		{"a \"b c\"\n", []api.Tok{word(1, 1, "a"), text(1, 3, "b c"), end(1, 8)}, 1},
		{"ab c\nd\n", []api.Tok{word(1, 1, "ab"), word(1, 4, "c"), end(1, 5), word(2, 1, "d"), end(2, 2)}, 2},
		{"\"\"\n", []api.Tok{text(1, 1, ""), end(1, 3)}, 1},
		{"\"a\\\"b\\\\c\" x\n", []api.Tok{text(1, 1, "a\"b\\c"), word(1, 11, "x"), end(1, 12)}, 1},
		{"\" ~\" !~\\'\n", []api.Tok{text(1, 1, " ~"), word(1, 6, "!~\\'"), end(1, 10)}, 1},
		{"\"a\" \"b\"\n\"c\"\n", []api.Tok{text(1, 1, "a"), text(1, 5, "b"), end(1, 8), text(2, 1, "c"), end(2, 4)}, 2},
		{"\"\\\\\"\n", []api.Tok{text(1, 1, "\\"), end(1, 5)}, 1},
	} {
		l, lines, col, e := lex.Tokens(c.s)
		if e != api.OK || lines != c.lines || col != 0 || !slices.Equal(l, c.want) {
			t.Errorf("Tokens(%q) = %v, %d, %d, %d", c.s, l, lines, col, e)
		}
		if back, e := lex.Show(l); back != c.s || e != api.OK {
			t.Errorf("%q is shown as %q, %d", c.s, back, e)
		}
	}
}

func TestTokensWrong(t *testing.T) {
	long := strings.Repeat("a", api.MaxSource-1)
	for _, c := range []struct {
		s         string
		line, col int
		e         api.Errno
	}{
		{"\n", 1, 1, api.ErrLex},
		{" a\n", 1, 1, api.ErrLex},
		{"a \n", 1, 3, api.ErrLex},
		{"a  b\n", 1, 3, api.ErrLex},
		{"a\n\nb\n", 2, 1, api.ErrLex},
		{"a\n b\n", 2, 1, api.ErrLex},
		{"a", 1, 2, api.ErrLex},
		{"a ", 1, 3, api.ErrLex},
		{"a\nbc", 2, 3, api.ErrLex},
		{"\"a", 1, 3, api.ErrLex},
		{"\"a\"", 1, 4, api.ErrLex},
		{"\"", 1, 2, api.ErrLex},
		{"\"a\\", 1, 4, api.ErrLex},
		{"\"a\n\"\n", 1, 3, api.ErrLex},
		{"\"a\\n\"\n", 1, 4, api.ErrLex},
		{"\"a\"b\n", 1, 4, api.ErrLex},
		{"\"a\"\"b\"\n", 1, 4, api.ErrLex},
		{"a\"b\"\n", 1, 2, api.ErrLex},
		{"a\"\n", 1, 2, api.ErrLex},
		{"a\tb\n", 1, 2, api.ErrLex},
		{"a\r\n", 1, 2, api.ErrLex},
		{"a\x7f\n", 1, 2, api.ErrLex},
		{"\x1f\n", 1, 1, api.ErrLex},
		{"ab\u00e9\n", 1, 3, api.ErrLex},
		{"\"\u00e9\"\n", 1, 2, api.ErrLex},
		{"\xff\n", 1, 1, api.ErrLex},
		{"\"a\x00\"\n", 1, 3, api.ErrLex},
		{"\"\\\u00e9\"\n", 1, 3, api.ErrLex},
		{"ok\nok 2\nbad\x01 more\n\n", 3, 4, api.ErrLex},
		{long + "\n", 1, 0, api.OK},
		{long + "b", 1, api.MaxSource + 1, api.ErrLex},
		{long + "b\n", 0, 0, api.ErrLong},
		{"\n" + long + "\n", 0, 0, api.ErrLong},
	} {
		l, line, col, e := lex.Tokens(c.s)
		if e != c.e || line != c.line || col != c.col || e != api.OK && len(l) != 0 {
			t.Errorf("Tokens(%.20q) = %d, %d, %d, want %d, %d, %d", c.s, line, col, e, c.line, c.col, c.e)
		}
	}
}

func TestWordQuote(t *testing.T) {
	for c := range 256 {
		s := string([]byte{byte(c)})
		if want := c >= 33 && c <= 126 && c != 34; lex.Word(s) != want || lex.Word("a"+s) != want || lex.Word(s+"a") != want {
			t.Errorf("Word(%q)", s)
		}
		want := "\"\""
		if c == 34 || c == 92 {
			want = "\"\\" + s + "\""
		} else if c >= 32 && c <= 126 {
			want = "\"" + s + "\""
		}
		if got := lex.Quote(s); got != want {
			t.Errorf("Quote(%q) = %s", s, got)
		}
	}
	if lex.Word("") || !lex.Word(strings.Repeat("w", 1<<21)) || lex.Word("a b") || lex.Word("\u00e9") {
		t.Error("Word")
	}
	if got := lex.Quote("a\"b\\c\nd\u00e9 e"); got != `"a\"b\\cd e"` || lex.Quote("") != `""` {
		t.Error("Quote:", got)
	}
}

func TestShow(t *testing.T) {
	for k, c := range []struct {
		l    []api.Tok
		want string
		e    api.Errno
	}{
		{nil, "", api.OK},
		{[]api.Tok{word(9, -3, "a"), text(0, 0, "b\"\\"), end(5, 5), word(1, 1, "c"), end(0, 0)}, "a \"b\\\"\\\\\"\nc\n", api.OK},
		{[]api.Tok{text(0, 0, ""), end(0, 0)}, "\"\"\n", api.OK},
		{[]api.Tok{end(0, 0)}, "", api.ErrArg},
		{[]api.Tok{word(0, 0, "a")}, "", api.ErrArg},
		{[]api.Tok{word(0, 0, "a"), end(0, 0), end(0, 0)}, "", api.ErrArg},
		{[]api.Tok{word(0, 0, "a"), end(0, 0), word(0, 0, "b")}, "", api.ErrArg},
		{[]api.Tok{word(0, 0, ""), end(0, 0)}, "", api.ErrArg},
		{[]api.Tok{word(0, 0, "a b"), end(0, 0)}, "", api.ErrArg},
		{[]api.Tok{word(0, 0, "a\""), end(0, 0)}, "", api.ErrArg},
		{[]api.Tok{word(0, 0, "\n"), end(0, 0)}, "", api.ErrArg},
		{[]api.Tok{text(0, 0, "\n"), end(0, 0)}, "", api.ErrArg},
		{[]api.Tok{text(0, 0, "\x7f"), end(0, 0)}, "", api.ErrArg},
		{[]api.Tok{text(0, 0, "\u00e9"), end(0, 0)}, "", api.ErrArg},
		{[]api.Tok{word(0, 0, "a"), {Kind: api.TokEnd, Text: "\n"}}, "", api.ErrArg},
		{[]api.Tok{{Kind: 0, Text: "a"}, end(0, 0)}, "", api.ErrArg},
		{[]api.Tok{{Kind: 4, Text: "a"}, end(0, 0)}, "", api.ErrArg},
		{[]api.Tok{{Kind: -1}, end(0, 0)}, "", api.ErrArg},
		{[]api.Tok{word(0, 0, strings.Repeat("a", api.MaxSource)), end(0, 0)}, "", api.ErrLong},
		{[]api.Tok{text(0, 0, strings.Repeat("\"", api.MaxSource/2)), end(0, 0)}, "", api.ErrLong},
		{[]api.Tok{word(0, 0, strings.Repeat("a", api.MaxSource)), end(0, 0), end(0, 0)}, "", api.ErrArg},
		{[]api.Tok{text(0, 0, strings.Repeat("a", api.MaxSource-2)), end(0, 0)}, "", api.ErrLong},
	} {
		if s, e := lex.Show(c.l); s != c.want || e != c.e {
			t.Errorf("%d: %.30q, %d, want %.30q, %d", k, s, e, c.want, c.e)
		}
	}
	most := strings.Repeat("a", api.MaxSource-4)
	for _, l := range [][]api.Tok{{text(0, 0, most+"a"), end(0, 0)}, {word(0, 0, "b"), end(0, 0), word(0, 0, most+"a"), end(0, 0)}, {word(0, 0, "b"), word(0, 0, most+"a"), end(0, 0)}} {
		s, e := lex.Show(l)
		if e != api.OK || len(s) != api.MaxSource {
			t.Errorf("as much as can be: %d bytes, %d", len(s), e)
		}
	}
}

// Tokens of chance are shown, and the text has them again; of bytes of chance the tokens are shown as these.
func TestBothWays(t *testing.T) {
	r := rand.New(rand.NewSource(1))
	right := 0
	for range 100000 {
		b := make([]byte, r.Intn(9))
		for i := range b {
			b[i] = "ab \n\n\"\"\\"[r.Intn(8)]
		}
		s := string(b)
		l, line, col, e := lex.Tokens(s)
		if e == api.OK {
			right++
			if back, e := lex.Show(l); back != s || e != api.OK || line != strings.Count(s, "\n") || col != 0 {
				t.Fatalf("%q is shown as %q", s, back)
			}
			continue
		}
		// Up to the byte that is told it can go on to some text; with that byte it can not.
		at := 0
		for range line - 1 {
			at += strings.Index(s[at:], "\n") + 1
		}
		at += col - 1
		goesOn := func(s string) bool {
			for _, more := range []string{"", "\n", "a\n", "\"\n", "\"\"\n", "\\\"\n"} {
				if _, _, _, e := lex.Tokens(s + more); e == api.OK {
					return true
				}
			}
			return false
		}
		if at > len(s) || !goesOn(s[:at]) || at < len(s) && goesOn(s[:at+1]) || e != api.ErrLex || len(l) != 0 {
			t.Fatalf("Tokens(%q) = %d, %d, %d", s, line, col, e)
		}
	}
	if right < 1000 {
		t.Error(right)
	}
	for range 2000 {
		var l []api.Tok
		for range r.Intn(4) {
			for range 1 + r.Intn(4) {
				s := []string{"a", "b\"c", "\\", "", "x y", "~"}[r.Intn(6)]
				kind := api.TokText
				if lex.Word(s) && r.Intn(2) == 0 {
					kind = api.TokWord
				}
				l = append(l, api.Tok{Kind: kind, Text: s})
			}
			l = append(l, api.Tok{Kind: api.TokEnd})
		}
		s, e := lex.Show(l)
		got, _, _, e2 := lex.Tokens(s)
		for i := range got {
			if got[i].Kind == api.TokText && !strings.HasPrefix(strings.Split(s, "\n")[got[i].Line-1][got[i].Col-1:], lex.Quote(got[i].Text)) {
				t.Fatalf("%v does not stand there in %q", got[i], s)
			}
			got[i].Line, got[i].Col = 0, 0
		}
		if e != api.OK || e2 != api.OK || !slices.Equal(got, l) {
			t.Fatalf("%v is shown as %q, which has %v", l, s, got)
		}
	}
}
