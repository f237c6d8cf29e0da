package finger_test

import (
	"cmp"
	"math"
	"math/rand"
	"slices"
	"strings"
	"testing"

	"warrantor/alarm"
	"warrantor/api"
	"warrantor/finger"
	"warrantor/fnv"
	"warrantor/leb"
	"warrantor/norm"
)

func at(file string, line int) api.Alarm {
	return api.Alarm{Kind: api.AlDiff, Sev: api.SevMay, Func: "main", File: file, Line: line, Expr: "i - n <= 0"}
}

func print(a api.Alarm, rank uint64) uint64 {
	return fnv.Sum(append(norm.Key(a.Kind, a.Func, a.Expr), leb.Put(rank)...))
}

func TestOne(t *testing.T) {
	a := at("a", 1)
	for _, rank := range []int{0, 1, 127, 128, 300, math.MaxInt} {
		if got := finger.One(a, rank); got != print(a, uint64(rank)) {
			t.Errorf("One of the rank %d: %x", rank, got)
		}
	}
	if finger.One(a, -1) != print(a, 0) || finger.One(a, math.MinInt) != print(a, 0) {
		t.Error("ranks below 0")
	}
	// It hangs on the kind, the function, and the expression, and on nothing else.
	same := []func(*api.Alarm){func(a *api.Alarm) { a.Line = 50 }, func(a *api.Alarm) { a.File = "b" }, func(a *api.Alarm) { a.Sev = 2 }, func(a *api.Alarm) { a.Expr = "i-n  <=0" }}
	for k, change := range same {
		b := a
		change(&b)
		if finger.One(b, 3) != finger.One(a, 3) {
			t.Errorf("%d matters", k)
		}
	}
	other := []func(*api.Alarm){func(a *api.Alarm) { a.Kind = 2 }, func(a *api.Alarm) { a.Func = "mai" }, func(a *api.Alarm) { a.Expr = "i - n <= 1" }}
	for k, change := range other {
		b := a
		change(&b)
		if finger.One(b, 3) == finger.One(a, 3) {
			t.Errorf("%d does not matter", k)
		}
	}
	if finger.One(api.Alarm{Kind: -5}, 0) != finger.One(api.Alarm{}, 0) {
		t.Error("a kind below 0")
	}
}

func TestRanks(t *testing.T) {
	must, spaced, other := at("a", 3), at("a", 3), at("a", 1)
	must.Sev = api.SevMust
	spaced.Expr = "i-n<=0" // its key is the same; its bytes are behind: "i " is ahead of "i-"
	other.Kind = api.AlUpper
	for k, c := range []struct {
		l    []api.Alarm
		want []int
	}{
		{nil, nil},
		{[]api.Alarm{at("a", 3)}, []int{0}},
		{[]api.Alarm{at("a", 3), at("a", 9)}, []int{0, 1}},
		{[]api.Alarm{at("a", 9), at("a", 3)}, []int{1, 0}},
		{[]api.Alarm{at("a", 13), at("a", 40)}, []int{0, 1}},
		{[]api.Alarm{at("b", 1), at("a", 9)}, []int{1, 0}},
		{[]api.Alarm{at("a", 3), at("a", 3), at("a", 3)}, []int{0, 1, 2}},
		{[]api.Alarm{must, at("a", 3)}, []int{1, 0}},
		{[]api.Alarm{spaced, at("a", 3), must}, []int{2, 0, 1}},
		{[]api.Alarm{at("a", 9), other, at("a", 3), other}, []int{1, 0, 0, 1}},
	} {
		if got := finger.Ranks(c.l); !slices.Equal(got, c.want) {
			t.Errorf("%d: %v, want %v", k, got, c.want)
		}
		var want []uint64
		for i, a := range c.l {
			want = append(want, finger.One(a, c.want[i]))
		}
		if got := finger.Of(c.l); !slices.Equal(got, want) {
			t.Errorf("%d: %x, want %x", k, got, want)
		}
	}
}

func chance(r *rand.Rand) api.Alarm {
	return api.Alarm{Kind: r.Intn(3), Sev: 1 + r.Intn(2), Func: []string{"f", "g"}[r.Intn(2)], File: []string{"a", "b"}[r.Intn(2)], Line: 1 + r.Intn(4), Expr: []string{"i<=0", "i <= 0", "i  <=0", "n <= 0"}[r.Intn(4)]}
}

// slow tells a rank by asking of each other alarm whether it is ahead.
func slow(l []api.Alarm, i int) int {
	rank := 0
	for j, b := range l {
		a := l[i]
		alike := a.Kind == b.Kind && a.Func == b.Func && norm.Same(a.Expr, b.Expr)
		if alike && cmp.Or(strings.Compare(b.File, a.File), cmp.Compare(b.Line, a.Line), alarm.Cmp(b, a), cmp.Compare(j, i)) < 0 {
			rank++
		}
	}
	return rank
}

func TestChance(t *testing.T) {
	r := rand.New(rand.NewSource(1))
	for range 300 {
		var l []api.Alarm
		for range r.Intn(25) {
			l = append(l, chance(r))
		}
		old := slices.Clone(l)
		ranks, prints := finger.Ranks(l), finger.Of(l)
		for i := range l {
			if ranks[i] != slow(l, i) || prints[i] != finger.One(l[i], ranks[i]) {
				t.Fatalf("%v: the rank of %d is %d", l, i, ranks[i])
			}
		}
		if len(ranks) != len(l) || len(prints) != len(l) || !slices.Equal(l, old) {
			t.Fatal("changed", l)
		}
		// In another order they have the same fingerprints.
		r.Shuffle(len(l), func(i, j int) { l[i], l[j] = l[j], l[i] })
		again := finger.Of(l)
		if !slices.Equal(slices.Sorted(slices.Values(again)), slices.Sorted(slices.Values(prints))) {
			t.Fatalf("%v: other fingerprints in another order", l)
		}
		for i, a := range l {
			for j, b := range old {
				if a == b && slices.Index(old, b) == j && slices.Index(l, a) == i && again[i] != prints[j] {
					t.Fatalf("%v has another fingerprint in another order", a)
				}
			}
		}
		// Lines that move, and expressions that are spaced in another way, are of no account.
		moved := slices.Clone(old)
		for i := range moved {
			if moved[i].File == "a" {
				moved[i].Line = moved[i].Line*7 + 3
			}
			moved[i].Line *= 2
		}
		if !slices.Equal(finger.Of(moved), prints) {
			t.Fatalf("%v: moved lines make other fingerprints", old)
		}
	}
}
