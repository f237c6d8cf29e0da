package leb_test

import (
	"bytes"
	"math"
	"math/rand"
	"testing"

	"warrantor/api"
	"warrantor/leb"
)

// numbers are those at which something begins or ends: around each power of two, and some by chance.
func numbers() []uint64 {
	l := []uint64{0, 1, 2, 63, 64, 300, math.MaxUint64}
	for k := uint(1); k < 64; k++ {
		l = append(l, 1<<k-1, 1<<k, 1<<k+1)
	}
	r := rand.New(rand.NewSource(1))
	for range 500 {
		l = append(l, r.Uint64()>>uint(r.Intn(64)))
	}
	return l
}

// slow tells a number's bytes by division, as the document says it.
func slow(n uint64) []byte {
	var b []byte
	for {
		rest := n / 128
		if rest == 0 {
			return append(b, byte(n%128))
		}
		b = append(b, byte(n%128+128))
		n = rest
	}
}

func TestPut(t *testing.T) {
	for _, c := range []struct {
		n uint64
		b []byte
	}{
		{0, []byte{0}},
		{1, []byte{1}},
		{127, []byte{127}},
		{128, []byte{128, 1}},
		{300, []byte{172, 2}},
		{16383, []byte{255, 127}},
		{16384, []byte{128, 128, 1}},
		{1 << 63, []byte{128, 128, 128, 128, 128, 128, 128, 128, 128, 1}},
		{math.MaxUint64, []byte{255, 255, 255, 255, 255, 255, 255, 255, 255, 1}},
	} {
		if b := leb.Put(c.n); !bytes.Equal(b, c.b) {
			t.Errorf("Put(%d) = %v, want %v", c.n, b, c.b)
		}
	}
	for _, n := range numbers() {
		if b := leb.Put(n); !bytes.Equal(b, slow(n)) || leb.Size(n) != len(b) {
			t.Errorf("Put(%d) = %v, Size %d, want %v", n, b, leb.Size(n), slow(n))
		}
	}
}

func TestGet(t *testing.T) {
	nine := bytes.Repeat([]byte{255}, 9)
	for _, c := range []struct {
		b    []byte
		n    uint64
		size int
		e    api.Errno
	}{
		{nil, 0, 0, api.ErrShort},
		{[]byte{}, 0, 0, api.ErrShort},
		{[]byte{128}, 0, 0, api.ErrShort},
		{[]byte{255, 255}, 0, 0, api.ErrShort},
		{nine, 0, 0, api.ErrShort},
		{[]byte{0}, 0, 1, api.OK},
		{[]byte{0, 0}, 0, 1, api.OK},
		{[]byte{0, 128}, 0, 1, api.OK},
		{[]byte{172, 2}, 300, 2, api.OK},
		{[]byte{172, 2, 255}, 300, 2, api.OK},
		{[]byte{128, 0}, 0, 0, api.ErrLeb},
		{[]byte{128, 0, 1}, 0, 0, api.ErrLeb},
		{[]byte{255, 128, 0}, 0, 0, api.ErrLeb},
		{[]byte{128, 128, 1}, 16384, 3, api.OK},
		{append(bytes.Clone(nine), 1), math.MaxUint64, 10, api.OK},
		{append(bytes.Clone(nine), 0), 0, 0, api.ErrLeb},
		{append(bytes.Clone(nine), 2), 0, 0, api.ErrLeb},
		{append(bytes.Clone(nine), 128), 0, 0, api.ErrLeb},
		{append(bytes.Clone(nine), 129), 0, 0, api.ErrLeb},
		{append(bytes.Clone(nine), 255, 255, 0), 0, 0, api.ErrLeb},
		{append(bytes.Repeat([]byte{128}, 9), 1), 1 << 63, 10, api.OK},
	} {
		n, size, e := leb.Get(c.b)
		if n != c.n || size != c.size || e != c.e {
			t.Errorf("Get(%v) = %d, %d, %d, want %d, %d, %d", c.b, n, size, e, c.n, c.size, c.e)
		}
	}
}

// What is put is got, whatever stands behind it; cut off it is ErrShort; a smaller number has no more bytes.
func TestPutGet(t *testing.T) {
	for _, n := range numbers() {
		b := leb.Put(n)
		for _, rest := range [][]byte{nil, {0}, {128}, {255, 255, 255}} {
			m, size, e := leb.Get(append(bytes.Clone(b), rest...))
			if m != n || size != len(b) || e != api.OK {
				t.Errorf("Get(Put(%d) and %v) = %d, %d, %d", n, rest, m, size, e)
			}
		}
		for cut := range b {
			if m, size, e := leb.Get(b[:cut]); m != 0 || size != 0 || e != api.ErrShort {
				t.Errorf("Get(%v) = %d, %d, %d", b[:cut], m, size, e)
			}
		}
		if n > 0 && leb.Size(n-1) > leb.Size(n) {
			t.Errorf("Size(%d) > Size(%d)", n-1, n)
		}
	}
}

// What is got of any bytes is put as these bytes, and what is put in no other way.
func TestGetPut(t *testing.T) {
	r := rand.New(rand.NewSource(2))
	for range 20000 {
		b := make([]byte, r.Intn(12))
		for i := range b {
			b[i] = []byte{0, 1, 2, 127, 128, 129, 255, byte(r.Intn(256))}[r.Intn(8)]
		}
		n, size, e := leb.Get(b)
		if e == api.OK && !bytes.Equal(leb.Put(n), b[:size]) || e != api.OK && (n != 0 || size != 0) {
			t.Errorf("Get(%v) = %d, %d, %d", b, n, size, e)
		}
		i, size2, e2 := leb.GetInt(b)
		if e2 != e || size2 != size || e == api.OK && leb.Zig(i) != n || e != api.OK && i != 0 {
			t.Errorf("GetInt(%v) = %d, %d, %d", b, i, size2, e2)
		}
	}
}

func TestSigned(t *testing.T) {
	for _, c := range []struct {
		n int64
		z uint64
		b []byte
	}{
		{0, 0, []byte{0}},
		{-1, 1, []byte{1}},
		{1, 2, []byte{2}},
		{-2, 3, []byte{3}},
		{63, 126, []byte{126}},
		{-64, 127, []byte{127}},
		{64, 128, []byte{128, 1}},
		{-65, 129, []byte{129, 1}},
		{math.MaxInt64, math.MaxUint64 - 1, []byte{254, 255, 255, 255, 255, 255, 255, 255, 255, 1}},
		{math.MinInt64, math.MaxUint64, []byte{255, 255, 255, 255, 255, 255, 255, 255, 255, 1}},
	} {
		if leb.Zig(c.n) != c.z || leb.Zag(c.z) != c.n || !bytes.Equal(leb.PutInt(c.n), c.b) {
			t.Errorf("%d: Zig %d, Zag %d, PutInt %v", c.n, leb.Zig(c.n), leb.Zag(c.z), leb.PutInt(c.n))
		}
		n, size, e := leb.GetInt(append(bytes.Clone(c.b), 7))
		if n != c.n || size != len(c.b) || e != api.OK {
			t.Errorf("GetInt(%v) = %d, %d, %d", c.b, n, size, e)
		}
	}
	for _, u := range numbers() {
		n := int64(u)
		if leb.Zag(leb.Zig(n)) != n || leb.Zig(leb.Zag(u)) != u || leb.Zag(leb.Zig(-n)) != -n {
			t.Errorf("%d is not turned back", n)
		}
		if !bytes.Equal(leb.PutInt(n), leb.Put(leb.Zig(n))) {
			t.Errorf("PutInt(%d) is not Put of the turned number", n)
		}
	}
	for _, c := range []struct {
		b []byte
		e api.Errno
	}{{nil, api.ErrShort}, {[]byte{200}, api.ErrShort}, {[]byte{128, 0}, api.ErrLeb}} {
		if n, size, e := leb.GetInt(c.b); n != 0 || size != 0 || e != c.e {
			t.Errorf("GetInt(%v) = %d, %d, %d", c.b, n, size, e)
		}
	}
}

// What is handed in is not changed, and what is told is nobody else's.
func TestShares(t *testing.T) {
	b := []byte{172, 2, 9}
	leb.Get(b)
	leb.GetInt(b)
	if !bytes.Equal(b, []byte{172, 2, 9}) {
		t.Errorf("changed: %v", b)
	}
	p, q := leb.Put(300), leb.Put(300)
	p[0] = 0
	if q[0] != 172 || leb.Put(300)[0] != 172 {
		t.Error("two answers share bytes")
	}
}
