package journal_test

import (
	"bytes"
	"math"
	"math/rand"
	"slices"
	"testing"

	"warrantor/api"
	"warrantor/crc"
	"warrantor/cur"
	"warrantor/journal"
	"warrantor/rec"
)

func entry(finger uint64) api.Entry {
	return api.Entry{
		Finger: finger,
		Alarm:  api.Alarm{Kind: api.AlUpper, Sev: api.SevMay, Func: "f", File: "a/b.w", Line: 7, Expr: "x <= 3"},
		State:  api.EnMuted, Count: 300, Note: "why",
	}
}

func rise(n int) []api.Entry {
	var l []api.Entry
	for i := range n {
		l = append(l, entry(uint64(i)*1000))
	}
	return l
}

func change(kind int, finger uint64) api.Change {
	return api.Change{Kind: kind, Entry: api.Entry{Finger: finger}}
}

func put(e api.Entry) api.Change { return api.Change{Kind: api.ChPut, Entry: e} }

// sumOf is a text with its sum behind it.
func sumOf(b []byte) []byte {
	p := cur.New()
	p.Text(string(b))
	p.Word(crc.Sum(p.Bytes()))
	return p.Bytes()
}

// head is the beginning of an image, as the document says it.
func head(gen, n uint64) []byte {
	p := cur.New()
	p.U(gen)
	p.U(n)
	return append([]byte("AIRJ\x01"), sumOf(p.Bytes())...)
}

func batch(l ...api.Change) []byte {
	b, e := rec.Put(l)
	if e != api.OK {
		panic(e)
	}
	return b
}

func puts(l []api.Entry) []byte {
	var c []api.Change
	for _, e := range l {
		c = append(c, put(e))
	}
	return batch(c...)
}

func TestStand(t *testing.T) {
	bad := entry(5)
	bad.Count = 0
	for k, c := range []struct {
		l    []api.Entry
		want bool
	}{
		{nil, true},
		{rise(1), true},
		{rise(512), true},
		{rise(513), false},
		{[]api.Entry{entry(0), entry(math.MaxUint64)}, true},
		{[]api.Entry{entry(1), entry(1)}, false},
		{[]api.Entry{entry(2), entry(1)}, false},
		{[]api.Entry{bad}, false},
		{[]api.Entry{entry(1), bad, entry(9)}, false},
	} {
		if journal.Stand(c.l) != c.want {
			t.Errorf("%d: Stand is %v", k, !c.want)
		}
		b, e := journal.Image(3, c.l)
		x, e2 := journal.Put(api.Log{Gen: 3, Entries: c.l})
		want := api.ErrArg
		if c.want {
			want = api.OK
		}
		if e != want || e2 != want || !bytes.Equal(b, x) || (len(b) > 0) != c.want {
			t.Errorf("%d: %d bytes, %d, %d bytes, %d", k, len(b), e, len(x), e2)
		}
	}
}

func TestImage(t *testing.T) {
	b, e := journal.Image(1, nil)
	if e != api.OK || !bytes.Equal(b[:8], []byte{'A', 'I', 'R', 'J', 1, 2, 1, 0}) || len(b) != 12 || !bytes.Equal(b, head(1, 0)) {
		t.Error("the example:", b, e)
	}
	for _, gen := range []int{1, 127, 128, 1 << 40} {
		for _, n := range []int{0, 1, 3, 512} {
			want := head(uint64(gen), uint64(n))
			if n > 0 {
				want = append(want, puts(rise(n))...)
			}
			b, e := journal.Image(gen, rise(n))
			if e != api.OK || !bytes.Equal(b, want) {
				t.Errorf("%d, %d: %d", gen, n, e)
			}
			x, size, e := journal.Read(b)
			if e != api.OK || size != len(b) || !journal.Same(x, api.Log{Gen: gen, Entries: rise(n)}) {
				t.Errorf("%d, %d: read %v, %d, %d", gen, n, x, size, e)
			}
		}
	}
	for _, gen := range []int{0, -1, 1<<40 + 1, math.MaxInt, math.MinInt} {
		if b, e := journal.Image(gen, nil); e != api.ErrArg || len(b) != 0 {
			t.Errorf("%d: %v, %d", gen, b, e)
		}
		if b, e := journal.Put(api.Log{Gen: gen, Batches: [][]api.Change{{}}}); e != api.ErrArg || len(b) != 0 {
			t.Errorf("%d: %v, %d", gen, b, e)
		}
	}
}

func TestPut(t *testing.T) {
	x := api.Log{Gen: 9, Entries: rise(2), Batches: [][]api.Change{{change(api.ChDone, 7)}, {put(entry(5)), change(api.ChOpen, 3)}, {change(api.ChDone, 7)}}}
	want := bytes.Join([][]byte{head(9, 2), puts(rise(2)), batch(x.Batches[0]...), batch(x.Batches[1]...), batch(x.Batches[2]...)}, nil)
	b, e := journal.Put(x)
	if e != api.OK || !bytes.Equal(b, want) {
		t.Error("Put:", e)
	}
	if got, size, e := journal.Read(b); e != api.OK || size != len(b) || !journal.Same(got, x) {
		t.Errorf("Read: %v, %d, %d", got, size, e)
	}
	for k, l := range [][]api.Change{nil, {{}}, {change(api.ChTell, 7)}, slices.Repeat([]api.Change{change(api.ChDone, 1)}, 513)} {
		if b, e := journal.Put(api.Log{Gen: 9, Batches: [][]api.Change{{change(api.ChDone, 7)}, l}}); e != api.ErrRec || len(b) != 0 {
			t.Errorf("%d: %d", k, e)
		}
	}
}

func TestReadWrong(t *testing.T) {
	good := append(head(5, 2), puts(rise(2))...)
	turned := bytes.Clone(good)
	turned[6] ^= 1
	p := cur.New()
	p.U(5)
	p.U(0)
	p.U(0)
	long := append([]byte("AIRJ\x01"), sumOf(p.Bytes())...)
	wrongSum := head(5, 0)
	wrongSum[len(wrongSum)-1] ^= 1
	for k, b := range [][]byte{
		nil, []byte("AIRJ"), []byte("AIRJ\x02"), []byte("airj\x01"), append([]byte{0}, good...),
		head(0, 0), head(1<<40+1, 0), head(math.MaxUint64, 0), head(5, 513), head(5, math.MaxUint64), long, wrongSum, turned,
		append([]byte("AIRJ\x01"), sumOf(nil)...), append([]byte("AIRJ\x01"), sumOf([]byte{5})...), append([]byte("AIRJ\x01"), sumOf([]byte{133, 0, 0})...), append([]byte("AIRJ\x01"), sumOf([]byte{5, 128, 0})...),
		head(5, 2), append(head(5, 1), puts(rise(2))...), append(head(5, 3), puts(rise(2))...),
		append(head(5, 1), batch(change(api.ChDone, 1))...), append(head(5, 2), batch(put(entry(1)), change(api.ChDone, 1))...),
		append(head(5, 2), batch(put(entry(1)), put(entry(1)))...), append(head(5, 2), batch(put(entry(2)), put(entry(1)))...),
	} {
		if x, size, e := journal.Read(b); e != api.ErrLog || size != 0 || !journal.Same(x, api.Log{}) {
			t.Errorf("%d: %v, %d, %d", k, x, size, e)
		}
	}
	for cut := range good {
		if x, size, e := journal.Read(good[:cut]); e != api.ErrLog || size != 0 || !journal.Same(x, api.Log{}) {
			t.Errorf("cut off at %d: %v, %d, %d", cut, x, size, e)
		}
	}
}

// Cut off behind the image there are as many batches as stand there whole, whatever stands behind them.
func TestWaste(t *testing.T) {
	x := api.Log{Gen: 9, Entries: rise(2), Batches: [][]api.Change{{change(api.ChDone, 7)}, {put(entry(5)), change(api.ChOpen, 3)}, {change(api.ChDone, 8)}}}
	b, _ := journal.Put(x)
	ends := []int{}
	for n := range 4 {
		part, _ := journal.Put(api.Log{Gen: 9, Entries: x.Entries, Batches: x.Batches[:n]})
		ends = append(ends, len(part))
	}
	for cut := ends[0]; cut <= len(b); cut++ {
		n := 0
		for n < 3 && ends[n+1] <= cut {
			n++
		}
		want := api.Log{Gen: 9, Entries: x.Entries, Batches: x.Batches[:n]}
		for _, waste := range [][]byte{nil, {0}, {255, 255, 255}, []byte("AIRJ\x01")} {
			got, size, e := journal.Read(append(bytes.Clone(b[:cut]), waste...))
			if cut > ends[n] && waste != nil && cut+len(waste) >= ends[min(n+1, 3)] {
				continue // it may be whole by chance
			}
			if e != api.OK || size != ends[n] || !journal.Same(got, want) {
				t.Fatalf("cut off at %d, %v: %v, %d, %d, want %d batches", cut, waste, got, size, e, n)
			}
		}
	}
	// A batch that is spoilt ends all, though whole ones stand behind it.
	spoilt := bytes.Clone(b)
	spoilt[ends[1]+3] ^= 1
	got, size, e := journal.Read(spoilt)
	if e != api.OK || size != ends[1] || len(got.Batches) != 1 {
		t.Errorf("spoilt: %d, %d", size, e)
	}
	// Of a journal without entries the first batch is a batch, though it puts.
	bare := append(head(4, 0), puts(rise(2))...)
	got, size, e = journal.Read(bare)
	if e != api.OK || size != len(bare) || len(got.Entries) != 0 || len(got.Batches) != 1 || len(got.Batches[0]) != 2 {
		t.Errorf("without entries: %v, %d, %d", got, size, e)
	}
}

func TestChance(t *testing.T) {
	r := rand.New(rand.NewSource(1))
	for range 200 {
		x := api.Log{Gen: 1 + r.Intn(1<<20), Entries: rise(r.Intn(4))}
		for range r.Intn(5) {
			var l []api.Change
			for range 1 + r.Intn(3) {
				l = append(l, change(api.ChOpen+r.Intn(2), r.Uint64()))
			}
			x.Batches = append(x.Batches, l)
		}
		b, e := journal.Put(x)
		got, size, e2 := journal.Read(b)
		if e != api.OK || e2 != api.OK || size != len(b) || !journal.Same(got, x) {
			t.Fatalf("%v is read as %v", x, got)
		}
		b[r.Intn(len(b))] ^= 1 << uint(r.Intn(8))
		got, size, e = journal.Read(b)
		if e == api.OK {
			if back, _ := journal.Put(got); !bytes.Equal(back, b[:size]) || size == len(b) {
				t.Fatalf("what is turned is read as %v", got)
			}
		}
	}
}

func TestSame(t *testing.T) {
	x := api.Log{Gen: 9, Entries: rise(2), Batches: [][]api.Change{{change(api.ChDone, 7)}, {change(api.ChOpen, 3)}}}
	for k, y := range []api.Log{
		{Gen: 8, Entries: x.Entries, Batches: x.Batches},
		{Gen: 9, Entries: x.Entries[:1], Batches: x.Batches},
		{Gen: 9, Entries: []api.Entry{entry(0), entry(1001)}, Batches: x.Batches},
		{Gen: 9, Entries: x.Entries, Batches: x.Batches[:1]},
		{Gen: 9, Entries: x.Entries, Batches: [][]api.Change{{change(api.ChDone, 7)}, {change(api.ChOpen, 4)}}},
		{Gen: 9, Entries: x.Entries, Batches: [][]api.Change{{change(api.ChDone, 7), change(api.ChOpen, 3)}}},
	} {
		if journal.Same(x, y) || journal.Same(y, x) {
			t.Errorf("%d: Same", k)
		}
	}
	if !journal.Same(x, x) || !journal.Same(api.Log{}, api.Log{Entries: []api.Entry{}, Batches: [][]api.Change{}}) {
		t.Error("Same")
	}
}

// Many small batches are read in time.
func TestMany(t *testing.T) {
	b := head(1, 0)
	one := batch(change(api.ChDone, 1))
	n := (api.MaxFiles - len(b)) / len(one)
	b = append(b, bytes.Repeat(one, n)...)
	x, size, e := journal.Read(b)
	if e != api.OK || size != len(b) || len(x.Batches) != n {
		t.Error(len(x.Batches), size, e)
	}
}
