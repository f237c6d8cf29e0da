package text

import (
	"slices"
	"strconv"
	"strings"

	"warrantor/api"
	"warrantor/dbm"
	"warrantor/fnv"
	"warrantor/prog"
	"warrantor/val"
	"warrantor/wto"
)

// longest is how many bytes the bound of a term has at most: no such number runs over.
const longest = 17

// wrong is what a reader panics with: where something can not stand.
type wrong struct{ line, col int }

// reader reads a result from tokens; behind is the line behind the last one, places where the number of each difference stands in a matrix.
type reader struct {
	toks   []api.Tok
	at     int
	behind int
	places map[string]int
	r      api.Result
}

// line is how what stands behind the first word of a line is read, and with which words the next one may begin.
type line struct {
	read func()
	next []string
}

// lines are all lines by their first words: in their order, but how many points, edges, zones, alarms and marks there are is not told here.
func (x *reader) lines() map[string]line {
	return map[string]line{
		wordAirx:    {x.airx, []string{wordProgram}},
		wordProgram: {x.program, []string{wordVars}},
		wordVars:    {x.vars, []string{wordPoint, wordEdge, wordOrder}},
		wordPoint:   {x.point, []string{wordPoint, wordEdge, wordOrder}},
		wordEdge:    {x.edge, []string{wordEdge, wordOrder}},
		wordOrder:   {x.order, []string{wordFirst}},
		wordFirst:   {x.first, []string{wordZone, wordAlarm, wordMark, wordEnd}},
		wordZone:    {x.zone, []string{wordZone, wordAlarm, wordMark, wordEnd}},
		wordAlarm:   {x.alarm, []string{wordAlarm, wordMark, wordEnd}},
		wordMark:    {x.mark, []string{wordMark, wordEnd}},
		wordEnd:     {x.end, nil},
	}
}

// all reads all lines.
func (x *reader) all() {
	lines := x.lines()
	next := []string{wordAirx}
	for len(next) > 0 {
		t := x.take(api.TokWord)
		if !slices.Contains(next, t.Text) {
			x.fail(t)
		}
		l := lines[t.Text]
		l.read()
		x.take(api.TokEnd)
		next = l.next
	}
	if x.at < len(x.toks) {
		x.fail(x.toks[x.at])
	}
}

// fail stops at a token that can not stand there.
func (x *reader) fail(t api.Tok) { panic(wrong{t.Line, t.Col}) }

// take takes the next token, which must be of a kind.
func (x *reader) take(kind int) api.Tok {
	if x.at == len(x.toks) {
		panic(wrong{x.behind, 1})
	}
	t := x.toks[x.at]
	if t.Kind != kind {
		x.fail(t)
	}
	x.at++
	return t
}

// more tells whether the line goes on.
func (x *reader) more() bool { return x.toks[x.at].Kind != api.TokEnd }

// word takes any word.
func (x *reader) word() string { return x.take(api.TokWord).Text }

// must takes just this word.
func (x *reader) must(s string) {
	if t := x.take(api.TokWord); t.Text != s {
		x.fail(t)
	}
}

// number takes a number.
func (x *reader) number() int {
	t := x.take(api.TokWord)
	n, e := val.Parse(t.Text)
	if e != api.OK || n < 0 || n > api.MaxLine {
		x.fail(t)
	}
	return n
}

func (x *reader) airx() { x.must(version) }

func (x *reader) program() { x.r.Prog.Name = x.word() }

func (x *reader) vars() {
	for x.more() {
		t := x.take(api.TokWord)
		if len(x.r.Prog.Vars) == api.MaxVars {
			x.fail(t)
		}
		x.r.Prog.Vars = append(x.r.Prog.Vars, t.Text)
	}
	x.places = placesOf(x.r.Prog.Vars)
}

// placesOf tells where the number of each difference of two variables stands in a matrix.
func placesOf(vars []string) map[string]int {
	places := map[string]int{}
	for i := range len(vars) + 1 {
		for j := range len(vars) + 1 {
			if i != j {
				places[difference(vars, i, j)] = i*(len(vars)+1) + j
			}
		}
	}
	return places
}

func (x *reader) point() {
	x.must(strconv.Itoa(len(x.r.Prog.Spots)))
	x.r.Prog.Spots = append(x.r.Prog.Spots, api.Spot{Func: x.word(), File: x.word(), Line: x.number()})
}

func (x *reader) edge() {
	edge := api.Edge{From: x.number(), To: x.number()}
	t := x.take(api.TokText)
	stmt, e := prog.Parse(x.r.Prog.Vars, t.Text)
	if e != api.OK {
		x.fail(t)
	}
	edge.Stmt = stmt
	x.r.Prog.Edges = append(x.r.Prog.Edges, edge)
}

func (x *reader) order() {
	t := x.take(api.TokText)
	w, _, e := wto.Parse(t.Text)
	if e != api.OK {
		x.fail(t)
	}
	x.r.Wto = w
}

func (x *reader) first() { x.r.First = x.zoneOf() }

func (x *reader) zone() {
	x.must(strconv.Itoa(len(x.r.Zones)))
	x.r.Zones = append(x.r.Zones, x.zoneOf())
}

// zoneOf takes a zone, of the bounds that are told: whether they are a zone's is told behind the last line.
func (x *reader) zoneOf() api.Zone {
	n := len(x.r.Prog.Vars)
	z, _ := dbm.All(n)
	t := x.take(api.TokWord)
	switch t.Text {
	case wordNone:
		return api.Zone{Vars: n}
	case wordAll:
		return z
	}
	x.term(z.M, t)
	for x.more() {
		x.term(z.M, x.take(api.TokWord))
	}
	return z
}

// term lays down in a matrix what a term says.
func (x *reader) term(m []int, t api.Tok) {
	diff, text, _ := strings.Cut(t.Text, atMost)
	at, known := x.places[diff]
	c, ok := bound(text)
	if !known || !ok {
		x.fail(t)
	}
	m[at] = c
}

// bound tells the number of the text of a bound.
func bound(s string) (int, bool) {
	digits, below := strings.CutPrefix(s, sign)
	if len(s) > longest || digits == "" || digits[0] == '0' && s != "0" { // each number has one text
		return 0, false
	}
	n := 0
	for _, c := range digits {
		if c < '0' || c > '9' {
			return 0, false
		}
		n = 10*n + int(c-'0')
	}
	if below {
		n = -n
	}
	return n, true
}

func (x *reader) alarm() {
	kind := x.oneOf(kindWord, api.AlLower)
	sev := x.oneOf(sevWord, api.SevMust)
	a := api.Alarm{Kind: kind, Sev: sev, Func: x.word(), File: x.word(), Line: x.number()}
	a.Expr = x.take(api.TokText).Text
	x.r.Alarms = append(x.r.Alarms, a)
}

// oneOf takes the word of a number from 1 to most.
func (x *reader) oneOf(wordOf func(int) string, most int) int {
	t := x.take(api.TokWord)
	for n := 1; n <= most; n++ {
		if wordOf(n) == t.Text {
			return n
		}
	}
	x.fail(t)
	return 0
}

func (x *reader) mark() {
	t := x.take(api.TokWord)
	finger, e := fnv.Parse(t.Text)
	if e != api.OK {
		x.fail(t)
	}
	x.r.Marks = append(x.r.Marks, api.Mark{Finger: finger, Note: x.take(api.TokText).Text})
}

func (x *reader) end() {}
