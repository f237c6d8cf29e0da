package cur_test

import (
	"bytes"
	"math"
	"math/rand"
	"strings"
	"testing"

	"warrantor/api"
	"warrantor/cur"
	"warrantor/leb"
)

func TestPen(t *testing.T) {
	p := cur.New()
	if len(p.Bytes()) != 0 {
		t.Error("a new pen has written", p.Bytes())
	}
	for _, c := range []struct {
		write func()
		b     []byte
	}{
		{func() { p.U(300) }, []byte{172, 2}},
		{func() { p.U(math.MaxUint64) }, []byte{255, 255, 255, 255, 255, 255, 255, 255, 255, 1}},
		{func() { p.I(-1) }, []byte{1}},
		{func() { p.I(64) }, []byte{128, 1}},
		{func() { p.Byte(7) }, []byte{7}},
		{func() { p.Byte(-1) }, []byte{255}},
		{func() { p.Byte(0x1ff02) }, []byte{2}},
		{func() { p.Word(0xdeadbeef) }, []byte{0xef, 0xbe, 0xad, 0xde}},
		{func() { p.Word(1) }, []byte{1, 0, 0, 0}},
		{func() { p.Text("") }, []byte{0}},
		{func() { p.Text("a\xff") }, []byte{2, 97, 255}},
		{func() { p.Text(strings.Repeat("x", 200)) }, append([]byte{200, 1}, strings.Repeat("x", 200)...)},
	} {
		old := p.Bytes()
		c.write()
		if b := p.Bytes(); !bytes.Equal(b, append(old, c.b...)) {
			t.Errorf("%v is written as %v", c.b, b[len(old):])
		}
	}
}

func TestPenShares(t *testing.T) {
	p := cur.New()
	p.Text("abc")
	b := p.Bytes()
	b[0], b = 9, append(b, 1)
	p.Byte(5)
	if !bytes.Equal(p.Bytes(), []byte{3, 97, 98, 99, 5}) || b[4] != 1 {
		t.Error("what was told is shared", p.Bytes(), b)
	}
}

func TestNil(t *testing.T) {
	var p *cur.Pen
	p.U(1)
	p.I(1)
	p.Byte(1)
	p.Word(1)
	p.Text("a")
	if len(p.Bytes()) != 0 {
		t.Error("a nil pen has written")
	}
	var r *cur.Reader
	r.Fail(api.ErrNone)
	r.End()
	if r.U() != 0 || r.I() != 0 || r.Byte() != 0 || r.Word() != 0 || r.Count(5) != 0 || r.Text(5) != "" {
		t.Error("a nil reader reads")
	}
	if r.At() != 0 || r.Left() != 0 || r.Err() != api.ErrShut {
		t.Error("a nil reader:", r.At(), r.Left(), r.Err())
	}
}

// reads are single calls of a reader, and what comes of them.
func TestReads(t *testing.T) {
	u := func(r *cur.Reader) any { return r.U() }
	i := func(r *cur.Reader) any { return r.I() }
	one := func(r *cur.Reader) any { return r.Byte() }
	word := func(r *cur.Reader) any { return r.Word() }
	count := func(most int) func(*cur.Reader) any { return func(r *cur.Reader) any { return r.Count(most) } }
	text := func(most int) func(*cur.Reader) any { return func(r *cur.Reader) any { return r.Text(most) } }
	long := append([]byte{255, 255, 255, 255, 255, 255, 255, 255, 255, 1}, 5)
	for k, c := range []struct {
		b    []byte
		read func(*cur.Reader) any
		want any
		at   int
		e    api.Errno
	}{
		{[]byte{172, 2, 9}, u, uint64(300), 2, api.OK},
		{long, u, uint64(math.MaxUint64), 10, api.OK},
		{nil, u, uint64(0), 0, api.ErrShort},
		{[]byte{128}, u, uint64(0), 0, api.ErrShort},
		{[]byte{128, 0}, u, uint64(0), 0, api.ErrLeb},
		{[]byte{1, 9}, i, int64(-1), 1, api.OK},
		{long, i, int64(math.MinInt64), 10, api.OK},
		{[]byte{128}, i, int64(0), 0, api.ErrShort},
		{[]byte{129, 0}, i, int64(0), 0, api.ErrLeb},
		{[]byte{255}, one, 255, 1, api.OK},
		{nil, one, 0, 0, api.ErrShort},
		{[]byte{0xef, 0xbe, 0xad, 0xde, 1}, word, uint32(0xdeadbeef), 4, api.OK},
		{[]byte{1, 2, 3}, word, uint32(0), 0, api.ErrShort},
		{nil, word, uint32(0), 0, api.ErrShort},
		{[]byte{8}, count(8), 8, 1, api.OK},
		{[]byte{9}, count(8), 0, 0, api.ErrLong},
		{[]byte{0}, count(0), 0, 1, api.OK},
		{[]byte{1}, count(0), 0, 0, api.ErrLong},
		{[]byte{0}, count(-1), 0, 0, api.ErrLong},
		{long, count(math.MaxInt), 0, 0, api.ErrLong},
		{long, count(-1), 0, 0, api.ErrLong},
		{[]byte{128, 0}, count(-1), 0, 0, api.ErrLeb},
		{[]byte{128}, count(-1), 0, 0, api.ErrShort},
		{[]byte{2, 97, 255, 1}, text(2), "a\xff", 3, api.OK},
		{[]byte{0, 1}, text(0), "", 1, api.OK},
		{[]byte{2, 97}, text(5), "", 0, api.ErrShort},
		{[]byte{2}, text(5), "", 0, api.ErrShort},
		{[]byte{2, 97, 98}, text(1), "", 0, api.ErrLong},
		{[]byte{200, 1}, text(1), "", 0, api.ErrLong},
		{long, text(math.MaxInt), "", 0, api.ErrLong},
		{[]byte{254, 255, 255, 255, 255, 255, 255, 255, 127}, text(math.MaxInt), "", 0, api.ErrShort},
		{[]byte{130, 0, 97, 98}, text(5), "", 0, api.ErrLeb},
		{[]byte{0}, text(-1), "", 0, api.ErrLong},
	} {
		r := cur.From(append([]byte{7}, c.b...)) // not only at the beginning
		r.Byte()
		got := c.read(r)
		left := len(c.b) - c.at
		if c.e != api.OK {
			left = 0
		}
		if got != c.want || r.At() != c.at+1 || r.Err() != c.e || r.Left() != left {
			t.Errorf("%d: %v at %d, %d left, error %d, want %v at %d, error %d", k, got, r.At(), r.Left(), r.Err(), c.want, c.at+1, c.e)
		}
	}
}

// What has failed reads nothing any more, stays where it is, and keeps its error.
func TestFailed(t *testing.T) {
	for _, fail := range []func(*cur.Reader){
		func(r *cur.Reader) { r.Count(1) },
		func(r *cur.Reader) { r.Text(1) },
		func(r *cur.Reader) { r.End() },
		func(r *cur.Reader) { r.Fail(api.ErrLong) },
	} {
		r := cur.From([]byte{1, 2, 3, 4, 5, 6})
		r.Byte()
		fail(r)
		r.Fail(api.ErrNone)
		r.Fail(api.OK)
		r.End()
		if r.U() != 0 || r.I() != 0 || r.Byte() != 0 || r.Word() != 0 || r.Count(9) != 0 || r.Text(9) != "" {
			t.Error("it reads on")
		}
		if r.Err() != api.ErrLong || r.At() != 1 || r.Left() != 0 {
			t.Error(r.Err(), r.At(), r.Left())
		}
	}
}

func TestFailEnd(t *testing.T) {
	r := cur.From([]byte{1})
	r.Fail(api.OK)
	if r.Err() != api.ErrArg || r.Left() != 0 || r.At() != 0 {
		t.Error("Fail(OK):", r.Err(), r.Left(), r.At())
	}
	r = cur.From([]byte{1})
	r.Fail(api.ErrMerge)
	if r.Err() != api.ErrMerge {
		t.Error("Fail:", r.Err())
	}
	r = cur.From([]byte{1, 2})
	r.Byte()
	r.End()
	if r.Err() != api.ErrLong || r.At() != 1 || r.Left() != 0 {
		t.Error("End ahead of one byte:", r.Err(), r.At(), r.Left())
	}
	r = cur.From([]byte{1})
	r.Byte()
	r.End()
	if r.Err() != api.OK || r.At() != 1 || r.Left() != 0 {
		t.Error("End:", r.Err(), r.At(), r.Left())
	}
	r.Fail(api.ErrHead)
	if r.Err() != api.ErrHead {
		t.Error("Fail behind End:", r.Err())
	}
}

// A reader keeps nothing of what it was made of.
func TestReaderShares(t *testing.T) {
	b := []byte{2, 97, 98, 1}
	r := cur.From(b)
	b[0], b[1], b[3] = 0, 120, 9
	if s, n := r.Text(9), r.Byte(); s != "ab" || n != 1 {
		t.Error("a reader is changed from outside:", s, n)
	}
	if !bytes.Equal(b, []byte{0, 120, 98, 9}) {
		t.Error("a reader changes what was handed in:", b)
	}
	c, d := []byte{1, 2}, []byte{1, 2}
	x, y := cur.From(c), cur.From(d)
	x.Byte()
	if x.At() != 1 || y.At() != 0 || y.Left() != 2 {
		t.Error("two readers are one")
	}
}

// What was written by any calls is read by the same ones, and nothing is left.
func TestWrittenRead(t *testing.T) {
	rnd := rand.New(rand.NewSource(3))
	for range 300 {
		p := cur.New()
		var l []any
		for range rnd.Intn(30) {
			n := rnd.Uint64() >> uint(rnd.Intn(64))
			var v any
			switch rnd.Intn(6) {
			case 0:
				v = n
				p.U(n)
			case 1:
				v = int64(n)
				p.I(int64(n))
			case 2:
				v = byte(n)
				p.Byte(int(n))
			case 3:
				v = uint32(n)
				p.Word(uint32(n))
			case 4:
				v = int(n >> 1)
				p.U(n >> 1)
			default:
				v = strings.Repeat("\x80b", int(n%200))
				p.Text(v.(string))
			}
			l = append(l, v)
		}
		r := cur.From(p.Bytes())
		for _, v := range l {
			var got any
			switch x := v.(type) {
			case uint64:
				got = r.U()
			case int64:
				got = r.I()
			case byte:
				got = byte(r.Byte())
			case uint32:
				got = r.Word()
			case int:
				got = r.Count(x)
			case string:
				got = r.Text(len(x))
			}
			if got != v {
				t.Fatalf("%v is read as %v", v, got)
			}
		}
		r.End()
		if r.Err() != api.OK || r.At() != len(p.Bytes()) || r.Left() != 0 {
			t.Fatal("left:", r.Left(), r.Err())
		}
	}
}

// U and I write what leb puts, and read what it gets.
func TestAsLeb(t *testing.T) {
	for _, n := range []uint64{0, 127, 128, 1 << 40, math.MaxUint64} {
		p := cur.New()
		p.U(n)
		p.I(int64(n))
		if !bytes.Equal(p.Bytes(), append(leb.Put(n), leb.PutInt(int64(n))...)) {
			t.Error(n, p.Bytes())
		}
	}
}
