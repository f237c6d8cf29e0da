package prog

import (
	"slices"
	"strings"

	"warrantor/api"
	"warrantor/val"
)

// How the parts of a statement's text are parted.
const (
	assign = " := "
	plus   = " + "
	minus  = " - "
	atMost = " <= "
	opened = " ["
	comma  = ", "
	closed = "]"
	sign   = "-"
)

// Show tells the text of a statement.
func Show(vars []string, s api.Stmt) (string, api.Errno) {
	if !rightVars(vars) {
		return "", api.ErrProg
	}
	if !Right(s, len(vars)) {
		return "", api.ErrStmt
	}
	return kinds()[s.Kind].show(vars, s), api.OK
}

func showSkip(_ []string, _ api.Stmt) string { return wordSkip }

func showLet(vars []string, s api.Stmt) string {
	to := vars[s.X-1] + assign
	switch {
	case s.Y == 0:
		return to + val.Show(s.C)
	case s.C == 0:
		return to + vars[s.Y-1]
	case s.C < 0:
		return to + vars[s.Y-1] + minus + val.Show(-s.C)
	default:
		return to + vars[s.Y-1] + plus + val.Show(s.C)
	}
}

func showAny(vars []string, s api.Stmt) string {
	return vars[s.X-1] + assign + wordAny + opened + val.Show(s.C) + comma + val.Show(s.D) + closed
}

func showLimit(vars []string, s api.Stmt) string { return showDiff(wordLimit, vars, s) }

func showCheck(vars []string, s api.Stmt) string { return showDiff(wordCheck, vars, s) }

// showDiff tells how a statement about a difference is written that begins with a word.
func showDiff(word string, vars []string, s api.Stmt) string {
	return word + " " + difference(vars, s) + atMost + val.Show(s.C)
}

// difference tells the text of X less Y.
func difference(vars []string, s api.Stmt) string {
	switch {
	case s.Y == 0:
		return vars[s.X-1]
	case s.X == 0:
		return sign + vars[s.Y-1]
	default:
		return vars[s.X-1] + minus + vars[s.Y-1]
	}
}

// longest is more bytes than the text of a statement has.
const longest = 256

// wrong is what a reader panics with, when what it reads is no statement's text.
type wrong struct{}

// Parse tells the statement of a text.
func Parse(vars []string, s string) (st api.Stmt, e api.Errno) {
	if !rightVars(vars) {
		return api.Stmt{}, api.ErrProg
	}
	if len(s) > longest {
		return api.Stmt{}, api.ErrStmt
	}
	defer func() {
		if x := recover(); x != nil {
			if _, ok := x.(wrong); !ok {
				panic(x)
			}
			st, e = api.Stmt{}, api.ErrStmt
		}
	}()
	r := &reader{vars: vars, rest: s}
	st = r.stmt()
	// What was read may be written in another way than it must be: there is one only.
	if back, e := Show(vars, st); e != api.OK || back != s {
		panic(wrong{})
	}
	return st, api.OK
}

// reader reads what is left of a text.
type reader struct {
	vars []string
	rest string
}

// next tells whether the text goes on with s, and goes on behind it, if it does.
func (r *reader) next(s string) bool {
	rest, ok := strings.CutPrefix(r.rest, s)
	r.rest = rest
	return ok
}

// must goes on behind s.
func (r *reader) must(s string) {
	if !r.next(s) {
		panic(wrong{})
	}
}

// word reads as many bytes of names as there are.
func (r *reader) word() string {
	n := nameSize(r.rest)
	w := r.rest[:n]
	r.rest = r.rest[n:]
	return w
}

// number tells the number of the variable of that name.
func (r *reader) number(name string) int {
	i := slices.Index(r.vars, name)
	if i < 0 {
		panic(wrong{})
	}
	return i + 1
}

// value reads a value.
func (r *reader) value() int {
	ahead := ""
	if r.next(sign) {
		ahead = sign
	}
	return value(ahead + r.word())
}

// value tells the value of a text.
func value(s string) int {
	n, e := val.Parse(s)
	if e != api.OK {
		panic(wrong{})
	}
	return n
}

// stmt reads a statement.
func (r *reader) stmt() api.Stmt {
	switch w := r.word(); w {
	case wordSkip:
		return api.Stmt{Kind: api.StSkip}
	case wordLimit:
		return r.diff(api.StLimit)
	case wordCheck:
		return r.diff(api.StCheck)
	default:
		x := r.number(w)
		r.must(assign)
		return r.assigned(x)
	}
}

// diff reads what stands behind the first word of a statement about a difference.
func (r *reader) diff(kind int) api.Stmt {
	s := api.Stmt{Kind: kind}
	r.must(" ")
	if r.next(sign) {
		s.Y = r.number(r.word())
	} else {
		s.X = r.number(r.word())
		if r.next(minus) {
			s.Y = r.number(r.word())
		}
	}
	r.must(atMost)
	s.C = r.value()
	return s
}

// assigned reads what the variable x becomes.
func (r *reader) assigned(x int) api.Stmt {
	if r.next(wordAny + opened) {
		s := api.Stmt{Kind: api.StAny, X: x}
		s.C = r.value()
		r.must(comma)
		s.D = r.value()
		r.must(closed)
		return s
	}
	s := api.Stmt{Kind: api.StLet, X: x}
	if !begins(r.rest) || strings.HasPrefix(r.rest, wordInf) && nameSize(r.rest) == len(wordInf) {
		s.C = r.value()
		return s
	}
	s.Y = r.number(r.word())
	if r.next(minus) {
		s.C = -r.value()
	} else if r.next(plus) {
		s.C = r.value()
	}
	return s
}
