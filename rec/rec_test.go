package rec_test

import (
	"bytes"
	"math"
	"math/rand"
	"slices"
	"strings"
	"testing"

	"warrantor/api"
	"warrantor/crc"
	"warrantor/cur"
	"warrantor/rec"
)

func someAlarm() api.Alarm {
	return api.Alarm{Kind: api.AlLower, Sev: api.SevMust, Func: "main", File: "lib/a.w", Line: 300, Expr: "-i <= 0"}
}

func entry() api.Entry {
	return api.Entry{Finger: 0x0102030405060708, Alarm: someAlarm(), State: api.EnMuted, Count: 200, Note: "why"}
}

func TestRight(t *testing.T) {
	for k, c := range []struct {
		change func(*api.Entry)
		right  bool
	}{
		{func(*api.Entry) {}, true},
		{func(e *api.Entry) { e.Finger = 0 }, true},
		{func(e *api.Entry) { e.Finger = math.MaxUint64 }, true},
		{func(e *api.Entry) { e.Alarm.Line = 0 }, false},
		{func(e *api.Entry) { e.Alarm.Expr = "" }, false},
		{func(e *api.Entry) { e.Alarm = api.Alarm{} }, false},
		{func(e *api.Entry) { e.State = 0 }, false},
		{func(e *api.Entry) { e.State = 4 }, false},
		{func(e *api.Entry) { e.State, e.Note = 0, "" }, false},
		{func(e *api.Entry) { e.State, e.Note = 4, "" }, false},
		{func(e *api.Entry) { e.State, e.Note = -1, "" }, false},
		{func(e *api.Entry) { e.State = api.EnOpen }, false},
		{func(e *api.Entry) { e.State, e.Note = api.EnOpen, "" }, true},
		{func(e *api.Entry) { e.State = api.EnDone }, false},
		{func(e *api.Entry) { e.State, e.Note = api.EnDone, "" }, true},
		{func(e *api.Entry) { e.Note = "" }, true},
		{func(e *api.Entry) { e.Note = strings.Repeat("n", 64) }, true},
		{func(e *api.Entry) { e.Note = strings.Repeat("n", 65) }, false},
		{func(e *api.Entry) { e.Note = "\n" }, false},
		{func(e *api.Entry) { e.Note = "\x7f" }, false},
		{func(e *api.Entry) { e.Count = 1 }, true},
		{func(e *api.Entry) { e.Count = 0 }, false},
		{func(e *api.Entry) { e.Count = -1 }, false},
		{func(e *api.Entry) { e.Count = 1 << 20 }, true},
		{func(e *api.Entry) { e.Count = 1<<20 + 1 }, false},
	} {
		e := entry()
		c.change(&e)
		if rec.Right(e) != c.right {
			t.Errorf("%d: Right is %v", k, !c.right)
		}
		want := api.ErrRec
		if c.right {
			want = api.OK
		}
		if got := rec.Check(api.Change{Kind: api.ChPut, Entry: e}); got != want {
			t.Errorf("%d: Check tells %d", k, got)
		}
	}
}

func tell() api.Change {
	return api.Change{Kind: api.ChTell, Entry: api.Entry{Finger: 9, Alarm: someAlarm()}}
}

func mute(note string) api.Change {
	return api.Change{Kind: api.ChMute, Entry: api.Entry{Finger: 7, Note: note}}
}

func only(kind int) api.Change { return api.Change{Kind: kind, Entry: api.Entry{Finger: 7}} }

func put() api.Change { return api.Change{Kind: api.ChPut, Entry: entry()} }

func TestCheck(t *testing.T) {
	with := func(c api.Change, change func(*api.Entry)) api.Change {
		change(&c.Entry)
		return c
	}
	for k, c := range []struct {
		c     api.Change
		right bool
	}{
		{tell(), true},
		{mute("why"), true},
		{mute(""), true},
		{mute("\n"), false},
		{mute(strings.Repeat("n", 65)), false},
		{only(api.ChOpen), true},
		{only(api.ChDone), true},
		{put(), true},
		{only(0), false},
		{only(6), false},
		{only(-1), false},
		{only(math.MaxInt), false},
		{only(api.ChTell), false},
		{only(api.ChPut), false},
		{api.Change{Kind: api.ChDone}, true},
		{with(tell(), func(e *api.Entry) { e.Alarm.Kind = 4 }), false},
		{with(tell(), func(e *api.Entry) { e.State = api.EnOpen }), false},
		{with(tell(), func(e *api.Entry) { e.Count = 1 }), false},
		{with(tell(), func(e *api.Entry) { e.Note = "a" }), false},
		{with(mute("a"), func(e *api.Entry) { e.Alarm = someAlarm() }), false},
		{with(mute("a"), func(e *api.Entry) { e.State = api.EnMuted }), false},
		{with(mute("a"), func(e *api.Entry) { e.Count = 1 }), false},
		{with(only(api.ChOpen), func(e *api.Entry) { e.Note = "a" }), false},
		{with(only(api.ChOpen), func(e *api.Entry) { e.State = api.EnOpen }), false},
		{with(only(api.ChDone), func(e *api.Entry) { e.Count = 1 }), false},
		{with(only(api.ChDone), func(e *api.Entry) { e.Alarm.Line = 1 }), false},
	} {
		want := api.ErrRec
		if c.right {
			want = api.OK
		}
		if got := rec.Check(c.c); got != want {
			t.Errorf("%d: Check tells %d", k, got)
		}
		b, e := rec.Put([]api.Change{only(api.ChDone), c.c})
		if e != want || (len(b) == 0) == c.right {
			t.Errorf("%d: Put tells %d", k, e)
		}
	}
}

// body is the body of any changes, as the document says it.
func body(l []api.Change) []byte {
	p := cur.New()
	p.U(uint64(len(l)))
	for _, c := range l {
		e, a := c.Entry, c.Entry.Alarm
		p.U(uint64(c.Kind))
		p.Word(uint32(e.Finger & math.MaxUint32))
		p.Word(uint32(e.Finger / (1 << 32)))
		if c.Kind == api.ChTell || c.Kind == api.ChPut {
			p.U(uint64(a.Kind))
			p.U(uint64(a.Sev))
			p.Text(a.Func)
			p.Text(a.File)
			p.U(uint64(a.Line))
			p.Text(a.Expr)
		}
		if c.Kind == api.ChPut {
			p.U(uint64(e.State))
			p.U(uint64(e.Count))
		}
		if c.Kind == api.ChMute || c.Kind == api.ChPut {
			p.Text(e.Note)
		}
	}
	return p.Bytes()
}

// whole is the batch of a body.
func whole(body []byte) []byte {
	p := cur.New()
	p.Text(string(body))
	p.Word(crc.Sum(p.Bytes()))
	return p.Bytes()
}

func TestPut(t *testing.T) {
	b, e := rec.Put([]api.Change{only(api.ChDone)})
	if e != api.OK || !bytes.Equal(b, whole([]byte{1, 4, 7, 0, 0, 0, 0, 0, 0, 0})) || b[0] != 10 || len(b) != 15 {
		t.Error("the example:", b, e)
	}
	many := slices.Repeat([]api.Change{put()}, 512)
	for k, l := range [][]api.Change{{tell()}, {mute("x")}, {only(api.ChOpen)}, {put()}, {put(), tell(), mute(""), only(api.ChDone), put()}, many} {
		b, e := rec.Put(l)
		if e != api.OK || !bytes.Equal(b, whole(body(l))) {
			t.Errorf("%d: %v, %d", k, b, e)
		}
		for _, rest := range [][]byte{nil, {0}, {255, 255}, b} {
			got, n, e := rec.Get(append(bytes.Clone(b), rest...))
			if e != api.OK || n != len(b) || !rec.Same(got, l) {
				t.Errorf("%d: got %v, %d, %d", k, got, n, e)
			}
		}
	}
	for k, l := range [][]api.Change{nil, {}, append(many, put()), {put(), {}}} {
		if b, e := rec.Put(l); e != api.ErrRec || len(b) != 0 {
			t.Errorf("wrong %d: %v, %d", k, b, e)
		}
	}
}

func TestGetWrong(t *testing.T) {
	good := whole(body([]api.Change{put(), mute("a")}))
	turned := bytes.Clone(good)
	turned[5] ^= 4
	lastTurned := bytes.Clone(good)
	lastTurned[len(good)-1] ^= 128
	number := func(n uint64) []byte {
		p := cur.New()
		p.U(n)
		return p.Bytes()
	}
	for k, c := range []struct {
		b []byte
		e api.Errno
	}{
		{nil, api.ErrShort},
		{[]byte{128}, api.ErrShort},
		{[]byte{128, 0}, api.ErrLeb},
		{bytes.Repeat([]byte{255}, 11), api.ErrLeb},
		{number(1<<20 + 1), api.ErrLong},
		{number(1 << 20), api.ErrShort},
		{number(math.MaxUint64), api.ErrLong},
		{append(number(math.MaxUint64), make([]byte, 50)...), api.ErrLong},
		{good[:len(good)-1], api.ErrShort},
		{good[:len(good)-4], api.ErrShort},
		{turned, api.ErrSum},
		{lastTurned, api.ErrSum},
		{whole(nil), api.ErrRec},
		{whole([]byte{0}), api.ErrRec},
		{whole([]byte{1}), api.ErrRec},
		{whole(append(body([]api.Change{put()}), 0)), api.ErrRec},
		{whole(body([]api.Change{put()})[1:]), api.ErrRec},
		{whole([]byte{129, 0, 4, 7, 0, 0, 0, 0, 0, 0, 0}), api.ErrRec},
		{whole([]byte{1, 0, 7, 0, 0, 0, 0, 0, 0, 0}), api.ErrRec},
		{whole([]byte{1, 6, 7, 0, 0, 0, 0, 0, 0, 0}), api.ErrRec},
		{whole([]byte{1, 4, 7, 0, 0, 0, 0, 0, 0}), api.ErrRec},
		{whole([]byte{2, 4, 7, 0, 0, 0, 0, 0, 0, 0}), api.ErrRec},
		{whole(body(slices.Repeat([]api.Change{put()}, 513))), api.ErrRec},
		{whole(body([]api.Change{mute("\n")})), api.ErrRec},
		{whole(body([]api.Change{mute(strings.Repeat("n", 65))})), api.ErrRec},
		{whole(body([]api.Change{{Kind: api.ChTell}})), api.ErrRec},
		{whole(body([]api.Change{{Kind: api.ChPut, Entry: api.Entry{Alarm: someAlarm(), State: api.EnOpen, Count: 1, Note: "a"}}})), api.ErrRec},
		{whole(body([]api.Change{{Kind: api.ChPut, Entry: api.Entry{Alarm: someAlarm(), State: api.EnOpen, Count: 1<<20 + 1}}})), api.ErrRec},
		{whole(body([]api.Change{{Kind: api.ChPut, Entry: api.Entry{Alarm: someAlarm(), State: 4, Count: 1}}})), api.ErrRec},
		{whole(make([]byte, 1<<20)), api.ErrRec},
	} {
		if l, n, e := rec.Get(c.b); e != c.e || n != 0 || len(l) != 0 {
			t.Errorf("%d: %v, %d, %d, want %d", k, l, n, e, c.e)
		}
	}
	for cut := range good {
		if l, n, e := rec.Get(good[:cut]); e != api.ErrShort || n != 0 || len(l) != 0 {
			t.Errorf("cut off at %d: %d", cut, e)
		}
	}
}

// The greatest changes there can be are got, as many as can be.
func TestGreatest(t *testing.T) {
	e := api.Entry{
		Finger: math.MaxUint64,
		Alarm:  api.Alarm{Kind: api.AlLower, Sev: api.SevMust, Func: strings.Repeat("f", 32), File: strings.Repeat("g", 64), Line: 1 << 20, Expr: strings.Repeat("~", 128)},
		State:  api.EnMuted, Count: 1 << 20, Note: strings.Repeat(" ", 64),
	}
	l := slices.Repeat([]api.Change{{Kind: api.ChPut, Entry: e}, {Kind: api.ChTell, Entry: api.Entry{Finger: e.Finger, Alarm: e.Alarm}}, {Kind: api.ChMute, Entry: api.Entry{Finger: e.Finger, Note: e.Note}}, {Kind: api.ChOpen, Entry: api.Entry{Finger: e.Finger}}}, 128)
	b, err := rec.Put(l)
	got, n, err2 := rec.Get(b)
	if err != api.OK || err2 != api.OK || n != len(b) || !rec.Same(got, l) {
		t.Error(err, err2)
	}
}

func chance(r *rand.Rand) api.Change {
	c := api.Change{Kind: 1 + r.Intn(5), Entry: api.Entry{Finger: r.Uint64() >> uint(r.Intn(64))}}
	note := []string{"", "a", "b \"c\""}[r.Intn(3)]
	if c.Kind == api.ChTell || c.Kind == api.ChPut {
		c.Entry.Alarm = api.Alarm{Kind: 1 + r.Intn(3), Sev: 1 + r.Intn(2), Func: "f", File: "g/h", Line: 1 + r.Intn(1<<20), Expr: strings.Repeat("x", 1+r.Intn(128))}
	}
	if c.Kind == api.ChMute {
		c.Entry.Note = note
	}
	if c.Kind == api.ChPut {
		c.Entry.State, c.Entry.Count = 1+r.Intn(3), 1+r.Intn(1<<20)
		if c.Entry.State == api.EnMuted {
			c.Entry.Note = note
		}
	}
	return c
}

func TestBothWays(t *testing.T) {
	r := rand.New(rand.NewSource(1))
	for range 500 {
		var l []api.Change
		for range 1 + r.Intn(6) {
			l = append(l, chance(r))
		}
		b, e := rec.Put(l)
		got, n, e2 := rec.Get(b)
		if e != api.OK || e2 != api.OK || n != len(b) || !rec.Same(got, l) || !bytes.Equal(b, whole(body(l))) {
			t.Fatalf("%v is got as %v, %d, %d", l, got, e, e2)
		}
		// A body that is another one is no batch's, or is put as it is.
		c := body(l)
		c[r.Intn(len(c))] = byte(r.Intn(200))
		w := whole(c)
		got, n, e = rec.Get(w)
		if e == api.OK {
			if back, _ := rec.Put(got); !bytes.Equal(back, w) || n != len(w) {
				t.Fatalf("%v is put as %v", w, back)
			}
		} else if e != api.ErrRec {
			t.Fatal(e)
		}
	}
}

func TestSame(t *testing.T) {
	l := []api.Change{put(), tell()}
	other := slices.Clone(l)
	other[1].Entry.Alarm.Line++
	if !rec.Same(l, slices.Clone(l)) || rec.Same(l, other) || rec.Same(l, l[:1]) || rec.Same(l, []api.Change{tell(), put()}) || !rec.Same(nil, []api.Change{}) {
		t.Error("Same")
	}
	if rec.Same([]api.Change{only(api.ChOpen)}, []api.Change{only(api.ChDone)}) || !rec.Same([]api.Change{{Kind: -1}}, []api.Change{{Kind: -1}}) {
		t.Error("Same")
	}
}
