package sect_test

import (
	"bytes"
	"math/rand"
	"testing"

	"warrantor/api"
	"warrantor/crc"
	"warrantor/cur"
	"warrantor/sect"
)

// head is the first five bytes, and one a section's bytes, as the document says them.
var head = []byte{'A', 'I', 'R', 'X', 1}

func one(tag int, body string) []byte {
	p := cur.New()
	p.Byte(tag)
	p.Text(body)
	p.Word(crc.Sum(p.Bytes()))
	return p.Bytes()
}

func join(l ...[]byte) []byte { return bytes.Join(l, nil) }

// many are n sections of the tags 1 to n.
func many(n int) ([]api.Sect, []byte) {
	var l []api.Sect
	b := bytes.Clone(head)
	for i := range n {
		l = append(l, api.Sect{Tag: i + 1, Body: []byte{byte(i)}})
		b = append(b, one(i+1, string([]byte{byte(i)}))...)
	}
	return l, b
}

func TestPut(t *testing.T) {
	sixteen, bytesOf := many(16)
	most := bytes.Repeat([]byte{7}, api.MaxBody)
	for k, c := range []struct {
		l []api.Sect
		b []byte
	}{
		{nil, head},
		{[]api.Sect{}, head},
		{[]api.Sect{{Tag: 5, Body: []byte("a")}}, join(head, one(5, "a"))},
		{[]api.Sect{{Tag: 1}, {Tag: 255, Body: []byte{}}}, join(head, one(1, ""), one(255, ""))},
		{[]api.Sect{{Tag: 9, Body: most}}, join(head, one(9, string(most)))},
		{sixteen, bytesOf},
	} {
		b, e := sect.Put(c.l)
		if e != api.OK || !bytes.Equal(b, c.b) {
			t.Errorf("%d: %d bytes, error %d", k, len(b), e)
		}
		l, size, e := sect.Get(c.b)
		if e != api.OK || size != len(c.b) || !sect.Same(l, c.l) {
			t.Errorf("%d: got %v, %d, %d", k, l, size, e)
		}
	}
	if b, _ := sect.Put([]api.Sect{{Tag: 5, Body: []byte("a")}}); !bytes.Equal(b[:8], []byte{'A', 'I', 'R', 'X', 1, 5, 1, 97}) {
		t.Error("the example:", b)
	}
}

func TestPutWrong(t *testing.T) {
	long := make([]byte, api.MaxBody+1)
	seventeen, _ := many(17)
	for k, c := range []struct {
		l []api.Sect
		e api.Errno
	}{
		{seventeen, api.ErrLong},
		{[]api.Sect{{Tag: 1, Body: long}}, api.ErrLong},
		{[]api.Sect{{Tag: 0}, {Tag: 1, Body: long}}, api.ErrLong},
		{append([]api.Sect{{Tag: 0}}, seventeen...), api.ErrLong},
		{[]api.Sect{{Tag: 0}}, api.ErrTag},
		{[]api.Sect{{Tag: -1}}, api.ErrTag},
		{[]api.Sect{{Tag: 256}}, api.ErrTag},
		{[]api.Sect{{Tag: 3}, {Tag: 3}}, api.ErrTag},
		{[]api.Sect{{Tag: 3}, {Tag: 2}}, api.ErrTag},
		{[]api.Sect{{Tag: 3}, {Tag: 259}}, api.ErrTag},
	} {
		if b, e := sect.Put(c.l); e != c.e || len(b) != 0 {
			t.Errorf("%d: %d bytes, error %d, want %d", k, len(b), e, c.e)
		}
	}
}

func TestGetWrong(t *testing.T) {
	good := join(head, one(2, "ab"))
	turned := bytes.Clone(good)
	turned[7] ^= 1
	_, full := many(16)
	long := func(n uint64) []byte {
		p := cur.New()
		p.Byte(3)
		p.U(n)
		return p.Bytes()
	}
	wrongSum := func(tag int, body string) []byte {
		b := one(tag, body)
		b[len(b)-1] ^= 128
		return b
	}
	for k, c := range []struct {
		b  []byte
		at int
		e  api.Errno
	}{
		{nil, 0, api.ErrHead},
		{[]byte("A"), 1, api.ErrHead},
		{[]byte("AIRX"), 4, api.ErrHead},
		{[]byte("BIRX\x01"), 0, api.ErrHead},
		{[]byte("AIRY\x01"), 3, api.ErrHead},
		{[]byte("AIRX\x02"), 4, api.ErrHead},
		{[]byte("AiRx"), 1, api.ErrHead},
		{join(good, []byte{3}), len(good), api.ErrShort},
		{join(good, []byte{3, 128, 0}), len(good), api.ErrLeb},
		{join(good, []byte{3, 5, 1, 2, 3}), len(good), api.ErrShort},
		{join(good, []byte{3, 1, 1, 0, 0, 0}), len(good), api.ErrShort},
		{join(good, long(api.MaxBody+1)), len(good), api.ErrLong},
		{join(good, long(api.MaxBody)), len(good), api.ErrShort},
		{turned, 5, api.ErrSum},
		{join(head, wrongSum(0, "a")), 5, api.ErrSum},
		{join(head, one(0, "a")), 5, api.ErrTag},
		{join(good, one(2, "a")), len(good), api.ErrTag},
		{join(good, one(1, "a")), len(good), api.ErrTag},
		{join(good, wrongSum(1, "a")), len(good), api.ErrSum},
		{join(full, one(17, "a")), len(full), api.ErrLong},
		{join(full, one(16, "a")), len(full), api.ErrTag},
		{join(full, wrongSum(17, "a")), len(full), api.ErrSum},
		{join(full, []byte{17, 4}), len(full), api.ErrShort},
		{join(full, []byte{17, 128, 0}), len(full), api.ErrLeb},
		{join(full, one(17, "a"), []byte{1}), len(full), api.ErrLong},
	} {
		if l, at, e := sect.Get(c.b); e != c.e || at != c.at || len(l) != 0 {
			t.Errorf("%d: %v, %d, error %d, want %d, error %d", k, l, at, e, c.at, c.e)
		}
	}
}

// Cut off anywhere but between two sections nothing is got; turned bits of a section are found.
func TestCutAndTurned(t *testing.T) {
	l := []api.Sect{{Tag: 2, Body: []byte("ab")}, {Tag: 7, Body: []byte{}}, {Tag: 200, Body: bytes.Repeat([]byte{1}, 200)}}
	b, _ := sect.Put(l)
	ends := map[int]int{5: 0}
	for i := range l {
		part, _ := sect.Put(l[:i+1])
		ends[len(part)] = i + 1
	}
	for cut := range b {
		got, at, e := sect.Get(b[:cut])
		n, whole := ends[cut]
		if whole && (e != api.OK || at != cut || !sect.Same(got, l[:n])) || !whole && (e == api.OK || len(got) != 0) {
			t.Errorf("cut at %d: %v, %d, %d", cut, got, at, e)
		}
	}
	for i := range b {
		for bit := range 8 {
			c := bytes.Clone(b)
			c[i] ^= 1 << uint(bit)
			if got, _, e := sect.Get(c); e == api.OK || len(got) != 0 {
				t.Errorf("the bit %d of %d turned: %v", bit, i, got)
			}
		}
	}
}

// What is got of any bytes is put as these bytes.
func TestGetPut(t *testing.T) {
	r := rand.New(rand.NewSource(1))
	for range 2000 {
		b := bytes.Clone(head)
		tag := 0
		for range r.Intn(6) {
			tag += r.Intn(60)
			body := make([]byte, r.Intn(4))
			r.Read(body)
			b = append(b, one(tag, string(body))...)
		}
		l, size, e := sect.Get(b)
		if e != api.OK {
			continue
		}
		if back, e := sect.Put(l); e != api.OK || !bytes.Equal(back, b) || size != len(b) {
			t.Errorf("%v is put as %v", b, back)
		}
	}
}

func TestFindSame(t *testing.T) {
	l := []api.Sect{{Tag: 2, Body: []byte("a")}, {Tag: 5}, {Tag: 2, Body: []byte("b")}, {Tag: -3, Body: []byte("c")}}
	for _, c := range []struct {
		tag  int
		body string
		ok   bool
	}{{2, "a", true}, {5, "", true}, {-3, "c", true}, {3, "", false}, {0, "", false}} {
		if b, ok := sect.Find(l, c.tag); string(b) != c.body || ok != c.ok {
			t.Errorf("Find(%d) = %q, %v", c.tag, b, ok)
		}
	}
	if b, ok := sect.Find(nil, 1); ok || len(b) != 0 {
		t.Error("found in none")
	}
	a := []api.Sect{{Tag: 1, Body: []byte("x")}, {Tag: 2}}
	for k, c := range []struct {
		b    []api.Sect
		same bool
	}{
		{[]api.Sect{{Tag: 1, Body: []byte("x")}, {Tag: 2, Body: []byte{}}}, true},
		{[]api.Sect{{Tag: 1, Body: []byte("y")}, {Tag: 2}}, false},
		{[]api.Sect{{Tag: 1, Body: []byte("x")}, {Tag: 3}}, false},
		{[]api.Sect{{Tag: 1, Body: []byte("x")}}, false},
		{[]api.Sect{{Tag: 2}, {Tag: 1, Body: []byte("x")}}, false},
		{nil, false},
	} {
		if sect.Same(a, c.b) != c.same || sect.Same(c.b, a) != c.same {
			t.Errorf("Same %d", k)
		}
	}
	if !sect.Same(nil, []api.Sect{}) {
		t.Error("nil and the empty list are not the same")
	}
}

// What is handed in is not changed, and what was got stays as it was, whatever becomes of the bytes.
func TestShares(t *testing.T) {
	b := join(head, one(2, "ab"), one(3, "cd"))
	old := bytes.Clone(b)
	l, _, _ := sect.Get(b)
	if !bytes.Equal(b, old) {
		t.Error("Get changes bytes")
	}
	clear(b)
	l[0].Body = append(l[0].Body, 'x')
	if string(l[0].Body) != "abx" || string(l[1].Body) != "cd" {
		t.Error("bodies are shared:", l)
	}
	in := []api.Sect{{Tag: 4, Body: []byte("q")}}
	out, _ := sect.Put(in)
	clear(out)
	if string(in[0].Body) != "q" {
		t.Error("Put shares")
	}
}
