package db_test

import (
	"bytes"
	"math/rand"
	"slices"
	"testing"

	"warrantor/api"
	"warrantor/db"
	"warrantor/file"
	"warrantor/finger"
	"warrantor/fold"
	"warrantor/journal"
	"warrantor/rec"
)

func alarmAt(line int) api.Alarm {
	return api.Alarm{Kind: api.AlUpper, Sev: api.SevMay, Func: "f", File: "a", Line: line, Expr: "x <= 3"}
}

func entry(finger uint64, state int) api.Entry {
	e := api.Entry{Finger: finger, Alarm: alarmAt(7), State: state, Count: 3}
	if state == api.EnMuted {
		e.Note = "m"
	}
	return e
}

func runOf(n int, lines ...int) api.Cmd {
	c := api.Cmd{Kind: api.CmRun, N: n}
	for _, l := range lines {
		c.Alarms = append(c.Alarms, alarmAt(l))
	}
	return c
}

func open(t *testing.T, d *file.Disk) (*db.DB, api.Opened) {
	t.Helper()
	x, o, e := db.Open(d)
	if e != api.OK || x == nil {
		t.Fatal("Open:", e)
	}
	return x, o
}

func done(t *testing.T, x *db.DB, c api.Cmd) []api.Change {
	t.Helper()
	l, e := x.Do(c)
	if e != api.OK {
		t.Fatal("Do:", e)
	}
	return l
}

func stored(t *testing.T, d *file.Disk, n int) []byte {
	t.Helper()
	b, e := d.Read(n)
	if e != api.OK {
		t.Fatal("Read:", e)
	}
	return b
}

func image(gen int, l []api.Entry) []byte {
	b, e := journal.Image(gen, l)
	if e != api.OK {
		panic(e)
	}
	return b
}

func batch(l ...api.Change) []byte {
	b, e := rec.Put(l)
	if e != api.OK {
		panic(e)
	}
	return b
}

func change(kind int, finger uint64) api.Change {
	return api.Change{Kind: kind, Entry: api.Entry{Finger: finger}}
}

func is(t *testing.T, x *db.DB, gen, n int, l []api.Entry) {
	t.Helper()
	if x.Gen() != gen || x.File() != n || x.Dead() || !fold.Same(x.Entries(), l) {
		t.Errorf("the generation %d, the file %d, dead %v, %v, want %d, %d, %v", x.Gen(), x.File(), x.Dead(), x.Entries(), gen, n, l)
	}
}

func TestNew(t *testing.T) {
	d := file.New()
	x, o := open(t, d)
	if o != (api.Opened{Gen: 1}) || !bytes.Equal(stored(t, d, 0), image(1, nil)) || len(stored(t, d, 1)) != 0 {
		t.Error("a new one:", o)
	}
	is(t, x, 1, 0, nil)
	// What tells nothing is done away with in the file 0 alone, and is no waste.
	d = file.New()
	d.Write(0, []byte("AIRJ\x01 but no more"))
	d.Write(1, []byte("other"))
	x, o = open(t, d)
	if o != (api.Opened{Gen: 1}) || !bytes.Equal(stored(t, d, 0), image(1, nil)) || string(stored(t, d, 1)) != "other" {
		t.Error("of bytes that tell nothing:", o)
	}
	is(t, x, 1, 0, nil)
}

func TestNil(t *testing.T) {
	if x, o, e := db.Open(nil); x != nil || o != (api.Opened{}) || e != api.ErrShut {
		t.Error("Open:", x, o, e)
	}
	var x *db.DB
	l, e := x.Do(api.Cmd{Kind: api.CmPack})
	if e != api.ErrShut || len(l) != 0 || len(x.Entries()) != 0 || x.Gen() != 0 || x.File() != 0 || !x.Dead() {
		t.Error("of nil:", l, e)
	}
}

func TestDo(t *testing.T) {
	d := file.New()
	x, _ := open(t, d)
	want := image(1, nil)
	var l []api.Entry
	f := finger.Of([]api.Alarm{alarmAt(3), alarmAt(9)})
	for k, c := range []api.Cmd{
		runOf(0, 3, 9),
		{Kind: api.CmMute, Finger: f[0], Note: "x"},
		runOf(1, 4),
		{Kind: api.CmOpen, Finger: f[1]},
		{Kind: api.CmBase, Marks: []api.Mark{{Finger: f[1], Note: "b"}}},
		{Kind: api.CmMerge, Entries: []api.Entry{entry(5, api.EnOpen)}},
		{Kind: api.CmDone, Finger: 5},
	} {
		plan, e := fold.Plan(l, c)
		if e != api.OK || len(plan) == 0 {
			t.Fatal(k, e)
		}
		l, _ = fold.All(l, plan)
		got := done(t, x, c)
		want = append(want, batch(plan...)...)
		if !rec.Same(got, plan) || !bytes.Equal(stored(t, d, 0), want) {
			t.Errorf("%d: %v, want %v", k, got, plan)
		}
		is(t, x, 1, 0, l)
		again, o := open(t, d)
		if o != (api.Opened{Gen: 1}) {
			t.Errorf("%d: opened %v", k, o)
		}
		is(t, again, 1, 0, l)
	}
	// What changes nothing writes nothing; what is refused neither.
	for k, c := range []struct {
		c api.Cmd
		e api.Errno
	}{
		{api.Cmd{Kind: api.CmBase}, api.OK},
		{api.Cmd{Kind: api.CmMerge, Entries: l}, api.OK},
		{runOf(0), api.OK},
		{api.Cmd{Kind: api.CmDone, Finger: 5}, api.ErrOnce},
		{api.Cmd{Kind: api.CmDone, Finger: 6}, api.ErrNone},
		{api.Cmd{Kind: api.CmMute, Finger: 5, Note: "\n"}, api.ErrMark},
		{runOf(2), api.ErrArg},
		{api.Cmd{Kind: api.CmMute, N: 2, Finger: 5, Note: "x"}, api.ErrArg},
		{api.Cmd{Kind: api.CmOpen, N: -1, Finger: 5}, api.ErrArg},
		{api.Cmd{Kind: api.CmDone, N: 2, Finger: 6}, api.ErrArg},
		{api.Cmd{Kind: api.CmBase, N: 2}, api.ErrArg},
		{api.Cmd{Kind: api.CmMerge, N: -1, Entries: []api.Entry{entry(6, api.EnOpen)}}, api.ErrArg},
		{api.Cmd{Kind: api.CmPack, N: 2}, api.ErrArg},
		{runOf(0, 0), api.ErrAlarm},
		{api.Cmd{}, api.ErrArg},
	} {
		if got, e := x.Do(c.c); e != c.e || len(got) != 0 || !bytes.Equal(stored(t, d, 0), want) {
			t.Errorf("%d: %v, %d, want %d", k, got, e, c.e)
		}
		is(t, x, 1, 0, l)
	}
	// What was told is nobody else's.
	x.Entries()[0].Count = 77
	is(t, x, 1, 0, l)
}

func TestPack(t *testing.T) {
	d := file.New()
	x, _ := open(t, d)
	done(t, x, runOf(0, 3, 9))
	l := x.Entries()
	old := stored(t, d, 0)
	d.Write(1, []byte("rubbish"))
	if got := done(t, x, api.Cmd{Kind: api.CmPack}); len(got) != 0 {
		t.Error("changes:", got)
	}
	is(t, x, 2, 1, l)
	if !bytes.Equal(stored(t, d, 1), image(2, l)) || !bytes.Equal(stored(t, d, 0), old) {
		t.Error("the files")
	}
	done(t, x, runOf(0, 3))
	l = x.Entries()
	if !bytes.HasPrefix(stored(t, d, 1), image(2, nil)[:5]) || !bytes.Equal(stored(t, d, 0), old) {
		t.Error("it is written to the other file")
	}
	y, o := open(t, d)
	if o != (api.Opened{Gen: 2, File: 1}) {
		t.Error("opened:", o)
	}
	is(t, y, 2, 1, l)
	done(t, x, api.Cmd{Kind: api.CmPack})
	is(t, x, 3, 0, l)
	if !bytes.Equal(stored(t, d, 0), image(3, l)) {
		t.Error("the files")
	}
	// The greatest generation is not followed by another one.
	d = file.New()
	d.Write(1, image(api.MaxGen, l))
	x, _ = open(t, d)
	is(t, x, api.MaxGen, 1, l)
	if got, e := x.Do(api.Cmd{Kind: api.CmPack}); e != api.ErrFull || len(got) != 0 {
		t.Error("beyond:", e)
	}
	if got, e := x.Do(api.Cmd{Kind: api.CmPack, N: 2}); e != api.ErrArg || len(got) != 0 {
		t.Error("beyond, with a wrong N:", e)
	}
	is(t, x, api.MaxGen, 1, l)
	done(t, x, runOf(0, 50))
}

// Which file is taken, and what of it is waste.
func TestOpen(t *testing.T) {
	three := []api.Entry{entry(10, api.EnDone), entry(20, api.EnOpen), entry(30, api.EnMuted)}
	behind, _ := fold.Do(three, change(api.ChDone, 20))
	good, refused, more := batch(change(api.ChDone, 20)), batch(change(api.ChOpen, 20), change(api.ChDone, 99)), batch(change(api.ChOpen, 10))
	join := func(l ...[]byte) []byte { return bytes.Join(l, nil) }
	for k, c := range []struct {
		a, b []byte
		o    api.Opened
		l    []api.Entry
	}{
		{image(4, three), nil, api.Opened{Gen: 4}, three},
		{nil, image(4, three), api.Opened{Gen: 4, File: 1}, three},
		{image(4, three), image(3, nil), api.Opened{Gen: 4}, three},
		{image(4, three), image(5, nil), api.Opened{Gen: 5, File: 1}, nil},
		{image(4, three), image(4, nil), api.Opened{Gen: 4}, three},
		{image(4, three), image(5, three)[:30], api.Opened{Gen: 4}, three},
		{join(image(4, three), good), nil, api.Opened{Gen: 4}, behind},
		{join(image(4, three), good, []byte{1, 2, 3}), nil, api.Opened{Gen: 4, Waste: 3}, behind},
		{join(image(4, three), good[:5]), nil, api.Opened{Gen: 4, Waste: 5}, three},
		{join(image(4, three), good, refused), nil, api.Opened{Gen: 4, Waste: len(refused)}, behind},
		{join(image(4, three), refused, good), nil, api.Opened{Gen: 4, Waste: len(refused) + len(good)}, three},
		{join(image(4, three), good, refused, more, []byte{9}), nil, api.Opened{Gen: 4, Waste: len(refused) + len(more) + 1}, behind},
		{join(image(4, three), good, good), nil, api.Opened{Gen: 4, Waste: len(good)}, behind},
		{image(4, three), join(image(5, three), refused), api.Opened{Gen: 5, File: 1, Waste: len(refused)}, three},
		{join(image(4, three), []byte{1}), join(image(3, three), []byte{1, 2}), api.Opened{Gen: 4, Waste: 1}, three},
	} {
		d := file.New()
		d.Write(0, c.a)
		d.Write(1, c.b)
		x, o := open(t, d)
		if o != c.o {
			t.Errorf("%d: opened %v, want %v", k, o, c.o)
		}
		is(t, x, c.o.Gen, c.o.File, c.l)
		want := [2][]byte{c.a, c.b}
		want[o.File] = want[o.File][:len(want[o.File])-o.Waste]
		for n := range 2 {
			if !bytes.Equal(stored(t, d, n), want[n]) {
				t.Errorf("%d: the file %d", k, n)
			}
		}
		again, o2 := open(t, d)
		if o2.Waste != 0 || o2.Gen != o.Gen || o2.File != o.File {
			t.Errorf("%d: opened again %v", k, o2)
		}
		is(t, again, c.o.Gen, c.o.File, c.l)
	}
}

func TestPowerless(t *testing.T) {
	d := file.New()
	d.Arm(0)
	d.Clear(0)
	if x, o, e := db.Open(d); x != nil || o != (api.Opened{}) || e != api.ErrOff {
		t.Error("Open without power:", o, e)
	}
	// Opening costs: the file is Cleared, and written; or cut.
	size := len(image(1, nil))
	for k := range size + 3 {
		d = file.New()
		d.Write(0, []byte("rubbish"))
		d.Arm(k)
		x, o, e := db.Open(d)
		if k > size {
			if e != api.OK || x == nil || o.Gen != 1 {
				t.Errorf("armed with %d: %d", k, e)
			}
			continue
		}
		if e != api.ErrOff || x != nil || o != (api.Opened{}) {
			t.Errorf("armed with %d: %d", k, e)
		}
	}
	d = file.New()
	d.Write(0, image(1, nil))
	d.Arm(0)
	if _, o, e := db.Open(d); e != api.OK || o != (api.Opened{Gen: 1}) || d.Off() {
		t.Error("without waste it costs nothing:", o, e)
	}
	d = file.New()
	d.Write(0, append(image(1, nil), 7))
	d.Arm(0)
	if x, _, e := db.Open(d); x != nil || e != api.ErrOff {
		t.Error("cut without power:", e)
	}
	d.Wake()
	x, o := open(t, d)
	if o.Waste != 1 {
		t.Error("waste:", o)
	}
	// Without power nothing is changed, and the database stays dead, though the disk is awake.
	done(t, x, runOf(0, 3))
	l := x.Entries()
	d.Arm(3)
	if got, e := x.Do(runOf(0, 9)); e != api.ErrOff || len(got) != 0 || !x.Dead() || !fold.Same(x.Entries(), l) {
		t.Error("without power:", e)
	}
	d.Wake()
	for _, c := range []api.Cmd{runOf(0, 9), {Kind: api.CmPack}, {Kind: api.CmPack, N: 2}, {}} {
		if got, e := x.Do(c); e != api.ErrOff || len(got) != 0 || !x.Dead() {
			t.Error("dead:", e)
		}
	}
	if !fold.Same(x.Entries(), l) || x.Gen() != 1 || x.File() != 0 {
		t.Error("changed")
	}
	y, o := open(t, d)
	if o.Waste != 3 {
		t.Error("waste:", o)
	}
	is(t, y, 1, 0, l)
}

func TestFull(t *testing.T) {
	d := file.New()
	one := []api.Entry{entry(10, api.EnOpen)}
	b := image(1, one)
	two := append(batch(change(api.ChDone, 10)), batch(change(api.ChOpen, 10))...)
	b = append(b, bytes.Repeat(two, (api.MaxFiles-len(b)-10)/len(two))...)
	d.Write(0, b)
	x, o := open(t, d)
	if o.Waste != 0 {
		t.Error("waste:", o)
	}
	is(t, x, 1, 0, one)
	for range 2 {
		if got, e := x.Do(runOf(0, 3)); e != api.ErrFull || len(got) != 0 {
			t.Error("full:", e)
		}
		is(t, x, 1, 0, one)
	}
	done(t, x, api.Cmd{Kind: api.CmPack})
	is(t, x, 2, 1, one)
	done(t, x, runOf(0, 3))
	if len(x.Entries()) != 2 {
		t.Error("behind it:", x.Entries())
	}
}

// Wherever the power goes, there are the entries of all commands that were told as done, or of one more, if all of its bytes came; packing changes none.
func TestCutOff(t *testing.T) {
	f := finger.Of([]api.Alarm{alarmAt(3), alarmAt(9)})
	cmds := []api.Cmd{runOf(0, 3, 9), {Kind: api.CmMute, Finger: f[0], Note: "x"}, {Kind: api.CmPack}, runOf(1, 3), {Kind: api.CmPack}, {Kind: api.CmOpen, Finger: f[0]}, {Kind: api.CmPack}}
	for k := 0; ; k++ {
		d := file.New()
		x, _ := open(t, d)
		d.Arm(k)
		states := [][]api.Entry{nil}
		cut := -1
		for i, c := range cmds {
			if _, e := x.Do(c); e != api.OK {
				if e != api.ErrOff || !x.Dead() {
					t.Fatal(k, e)
				}
				cut = i
				break
			}
			states = append(states, x.Entries())
		}
		told := states[len(states)-1]
		if !fold.Same(x.Entries(), told) {
			t.Fatalf("armed with %d: what was not done is there", k)
		}
		d.Wake()
		y, o := open(t, d)
		if !fold.Same(y.Entries(), told) {
			plan, _ := fold.Plan(told, cmds[max(cut, 0)])
			more, _ := fold.All(told, plan)
			if cut < 0 || cmds[cut].Kind == api.CmPack || o.Waste != 0 || !fold.Same(y.Entries(), more) {
				t.Fatalf("armed with %d: %v, want %v", k, y.Entries(), told)
			}
		}
		// Opened again nothing is waste, and it goes on.
		z, o := open(t, d)
		if o.Waste != 0 || !fold.Same(z.Entries(), y.Entries()) || z.Gen() != y.Gen() {
			t.Fatalf("armed with %d: opened again %v", k, o)
		}
		done(t, z, runOf(0, 77))
		done(t, z, api.Cmd{Kind: api.CmPack})
		if cut < 0 {
			if k < 100 {
				t.Fatal("it costs too little:", k)
			}
			return
		}
	}
}

// Whatever stands in place of the bytes from some place on, the batches that lie whole ahead of it are done.
func TestSpoilt(t *testing.T) {
	r := rand.New(rand.NewSource(1))
	d := file.New()
	x, _ := open(t, d)
	states, ends := [][]api.Entry{nil}, []int{len(stored(t, d, 0))}
	for i := range 8 {
		done(t, x, runOf(i%2, 1+r.Intn(9), 1+r.Intn(9)))
		states, ends = append(states, x.Entries()), append(ends, len(stored(t, d, 0)))
	}
	b := stored(t, d, 0)
	for range 300 {
		at := ends[0] + r.Intn(len(b)-ends[0]+1)
		n := 0
		for n < 8 && ends[n+1] <= at {
			n++
		}
		d = file.New()
		waste := [][]byte{nil, {128, 0}, {0, 0, 0, 0, 0}, bytes.Repeat([]byte{255}, 30)}[r.Intn(4)]
		if at > ends[n] {
			waste = nil
		}
		d.Spoil(0, 0, slices.Concat(b[:at], waste))
		y, o := open(t, d)
		if o.Waste != at-ends[n]+len(waste) {
			t.Fatalf("spoilt at %d: %v", at, o)
		}
		is(t, y, 1, 0, states[n])
	}
}

// A disk may be used by its own calls, too.
func TestDisk(t *testing.T) {
	d := file.New()
	x, _ := open(t, d)
	done(t, x, runOf(0, 3))
	d.Spoil(0, 0, nil)
	l := x.Entries()
	is(t, x, 1, 0, l)
	done(t, x, runOf(0, 9)) // behind what there is now
	y, _ := open(t, d)
	is(t, y, 1, 0, nil)
}
