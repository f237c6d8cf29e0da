package strs_test

import (
	"bytes"
	"fmt"
	"math/rand"
	"slices"
	"strings"
	"testing"

	"warrantor/api"
	"warrantor/strs"
)

// count are n texts, rising.
func count(n int) []string {
	var l []string
	for i := range n {
		l = append(l, fmt.Sprintf("%05d", i))
	}
	return l
}

func TestOf(t *testing.T) {
	for _, c := range []struct{ l, want []string }{
		{nil, nil},
		{[]string{""}, []string{""}},
		{[]string{"b", "a", "b", "", "ab", "a"}, []string{"", "a", "ab", "b"}},
		{[]string{"\xff", "Z", "a", "é"}, []string{"Z", "a", "é", "\xff"}},
	} {
		old := slices.Clone(c.l)
		if got := strs.Of(c.l); !slices.Equal(got, c.want) || !slices.Equal(old, c.l) {
			t.Errorf("Of(%q) = %q", old, got)
		}
	}
	// What lies behind a list's end stays as it is.
	room := []string{"b", "b", "a", "behind"}
	got := strs.Of(room[:3])
	_ = append(got, "x", "y")
	if !slices.Equal(room, []string{"b", "b", "a", "behind"}) {
		t.Errorf("changed: %q", room)
	}
}

func TestCheckPut(t *testing.T) {
	most := strings.Repeat("m", api.MaxText)
	for k, c := range []struct {
		l []string
		e api.Errno
	}{
		{nil, api.OK},
		{[]string{""}, api.OK},
		{[]string{"", "a", "aa", "b"}, api.OK},
		{[]string{"a", most}, api.OK},
		{count(api.MaxTexts), api.OK},
		{count(api.MaxTexts + 1), api.ErrLong},
		{[]string{most + "m"}, api.ErrLong},
		{[]string{"b", "a", most + "m"}, api.ErrLong},
		{append([]string{"9"}, count(api.MaxTexts)...), api.ErrLong},
		{[]string{"a", "a"}, api.ErrStrs},
		{[]string{"", ""}, api.ErrStrs},
		{[]string{"b", "a"}, api.ErrStrs},
		{[]string{"ab", "a"}, api.ErrStrs},
		{[]string{"a", "b", "b"}, api.ErrStrs},
		{[]string{"\xff", "a"}, api.ErrStrs},
	} {
		if e := strs.Check(c.l); e != c.e {
			t.Errorf("%d: Check tells %d, want %d", k, e, c.e)
		}
		b, e := strs.Put(c.l)
		if e != c.e || e != api.OK && len(b) != 0 {
			t.Errorf("%d: Put tells %d, want %d", k, e, c.e)
		}
		if e != api.OK {
			continue
		}
		if l, size, e := strs.Get(b); e != api.OK || size != len(b) || !strs.Same(l, c.l) {
			t.Errorf("%d: %q is got as %q, %d, %d", k, c.l, l, size, e)
		}
	}
}

func TestBytes(t *testing.T) {
	long := strings.Repeat("q", 200)
	for _, c := range []struct {
		l []string
		b []byte
	}{
		{nil, []byte{0}},
		{[]string{""}, []byte{1, 0, 0}},
		{[]string{"ab", "abc", "b"}, []byte{3, 0, 2, 'a', 'b', 2, 1, 'c', 0, 1, 'b'}},
		{[]string{"", "ab", "ac"}, []byte{3, 0, 0, 0, 2, 'a', 'b', 1, 1, 'c'}},
		{[]string{long, long + "r"}, slices.Concat([]byte{2, 0, 200, 1}, []byte(long), []byte{200, 1, 1, 'r'})},
	} {
		if b, e := strs.Put(c.l); e != api.OK || !bytes.Equal(b, c.b) {
			t.Errorf("Put(%q) = %v, %d, want %v", c.l, b, e, c.b)
		}
	}
}

func TestGetWrong(t *testing.T) {
	m200 := strings.Repeat("m", 200)
	text := func(s string, b ...byte) []byte { return append([]byte(s), b...) }
	for k, c := range []struct {
		b  []byte
		at int
		e  api.Errno
	}{
		{nil, 0, api.ErrShort},
		{[]byte{128}, 0, api.ErrShort},
		{[]byte{128, 0}, 0, api.ErrLeb},
		{[]byte{129, 32}, 0, api.ErrLong}, // 4097
		{[]byte{128, 32}, 2, api.ErrShort},
		{[]byte{1}, 1, api.ErrShort},
		{[]byte{1, 129, 0}, 1, api.ErrLeb},
		{[]byte{1, 129, 2}, 1, api.ErrLong},                       // 257
		{[]byte{1, 128, 2}, 3, api.ErrShort},                      // 256
		{[]byte{1, 0}, 2, api.ErrShort},                           // no text
		{[]byte{1, 0, 2, 'a'}, 2, api.ErrShort},                   // a text that is cut off
		{[]byte{1, 0, 128, 0}, 2, api.ErrLeb},                     //
		{[]byte{1, 0, 129, 2}, 2, api.ErrLong},                    //
		{[]byte{1, 1, 1, 'a'}, 1, api.ErrStrs},                    // none ahead
		{[]byte{1, 1, 2, 'a'}, 2, api.ErrShort},                   // what is not there counts first
		{[]byte{2, 0, 1, 'a', 2, 1, 'b'}, 4, api.ErrStrs},         // more than the one ahead has
		{[]byte{2, 0, 1, 'a', 0, 2, 'a', 'b'}, 4, api.ErrStrs},    // one more
		{[]byte{2, 0, 2, 'a', 'c', 1, 1, 'b'}, 5, api.ErrStrs},    // less
		{[]byte{2, 0, 1, 'a', 1, 0}, 4, api.ErrStrs},              // the same
		{[]byte{2, 0, 1, 'a', 0, 0}, 4, api.ErrStrs},              // less
		{[]byte{2, 0, 0, 0, 0}, 3, api.ErrStrs},                   // twice the empty one
		{[]byte{0, 7}, 1, api.ErrLong},                            // left
		{[]byte{1, 0, 1, 'a', 0}, 4, api.ErrLong},                 // left
		{[]byte{3, 0, 1, 'b', 0, 1, 'a', 128, 0}, 4, api.ErrStrs}, // the first fault counts
		{slices.Concat([]byte{2, 0, 200, 1}, text(m200, 200, 1, 57), text(m200[:57])), 204, api.ErrLong},      // 257 bytes
		{slices.Concat([]byte{2, 0, 200, 1}, text(m200, 199, 1, 58, 'a'), text(m200[:57])), 204, api.ErrStrs}, // less, and too long
		{slices.Concat([]byte{2, 0, 200, 1}, text(m200, 201, 1, 57), text(m200[:57])), 204, api.ErrStrs},
	} {
		if l, at, e := strs.Get(c.b); e != c.e || at != c.at || len(l) != 0 {
			t.Errorf("%d: %q, %d, error %d, want %d, error %d", k, l, at, e, c.at, c.e)
		}
	}
	b := slices.Concat([]byte{2, 0, 200, 1}, text(m200, 200, 1, 56), text(m200[:56]))
	if l, at, e := strs.Get(b); e != api.OK || at != len(b) || len(l) != 2 || len(l[1]) != 256 {
		t.Errorf("256 bytes: %d, %d", at, e)
	}
}

func TestFindSame(t *testing.T) {
	l := []string{"", "a", "ab", "b", "\xff"}
	for i, s := range l {
		if at, ok := strs.Find(l, s); at != i || !ok {
			t.Errorf("Find(%q) = %d, %v", s, at, ok)
		}
	}
	for _, s := range []string{"aa", "c", "abc", "A"} {
		if at, ok := strs.Find(l, s); at != 0 || ok {
			t.Errorf("Find(%q) = %d, %v", s, at, ok)
		}
	}
	for _, l := range [][]string{nil, {"b", "a"}, {"a", "a"}, {"a", strings.Repeat("x", 257)}, count(4097)} {
		if at, ok := strs.Find(l, "a"); at != 0 || ok {
			t.Errorf("found in what is no table: %d", at)
		}
	}
	many := count(api.MaxTexts)
	if at, ok := strs.Find(many, many[4095]); at != 4095 || !ok {
		t.Errorf("the last of many: %d, %v", at, ok)
	}
	if !strs.Same(nil, []string{}) || !strs.Same(l, slices.Clone(l)) || strs.Same(l, l[:4]) || strs.Same([]string{"a", "b"}, []string{"b", "a"}) || strs.Same(nil, []string{""}) {
		t.Error("Same")
	}
	if !strs.Same([]string{"b", "a"}, []string{"b", "a"}) {
		t.Error("Same of what is no table")
	}
}

// Tables of chance are got as they were put; of bytes of chance what is got is put as these.
func TestBothWays(t *testing.T) {
	r := rand.New(rand.NewSource(1))
	for range 500 {
		var l []string
		for range r.Intn(20) {
			s := ""
			for range r.Intn(5) {
				s += string([]byte{byte("ab\xfe"[r.Intn(3)])})
			}
			l = append(l, s)
		}
		l = strs.Of(l)
		b, e := strs.Put(l)
		got, size, e2 := strs.Get(b)
		if e != api.OK || e2 != api.OK || size != len(b) || !strs.Same(got, l) {
			t.Errorf("%q is got as %q", l, got)
		}
		for cut := range b {
			if got, _, e := strs.Get(b[:cut]); e == api.OK || len(got) != 0 {
				t.Errorf("%v is got as %q", b[:cut], got)
			}
		}
	}
	found := 0
	for range 200000 {
		b := make([]byte, r.Intn(9))
		for i := range b {
			b[i] = []byte{0, 0, 1, 1, 2, 3, 'a', 'b'}[r.Intn(8)]
		}
		l, size, e := strs.Get(b)
		if e != api.OK {
			continue
		}
		found++
		if back, e := strs.Put(l); e != api.OK || !bytes.Equal(back, b) || size != len(b) {
			t.Errorf("%v is put as %v", b, back)
		}
	}
	if found < 100 {
		t.Errorf("only %d were tables", found)
	}
}
