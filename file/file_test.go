package file_test

import (
	"bytes"
	"math"
	"math/rand"
	"testing"

	"warrantor/api"
	"warrantor/file"
)

func read(t *testing.T, d *file.Disk, n int, want string) {
	t.Helper()
	if b, e := d.Read(n); e != api.OK || string(b) != want {
		t.Errorf("the file %d: %.20q, %d, want %.20q", n, b, e, want)
	}
}

func is(t *testing.T, what string, e, want api.Errno) {
	t.Helper()
	if e != want {
		t.Errorf("%s: %d, want %d", what, e, want)
	}
}

func TestFiles(t *testing.T) {
	d := file.New()
	read(t, d, 0, "")
	read(t, d, 1, "")
	is(t, "Write", d.Write(0, []byte("abc")), api.OK)
	is(t, "Write", d.Write(0, []byte("de")), api.OK)
	is(t, "Write", d.Write(1, []byte("x")), api.OK)
	is(t, "Write of nothing", d.Write(1, nil), api.OK)
	read(t, d, 0, "abcde")
	read(t, d, 1, "x")
	is(t, "Cut", d.Cut(0, 5), api.OK)
	read(t, d, 0, "abcde")
	is(t, "Cut", d.Cut(0, 2), api.OK)
	read(t, d, 0, "ab")
	is(t, "Write", d.Write(0, []byte("z")), api.OK)
	read(t, d, 0, "abz")
	is(t, "Cut", d.Cut(0, 0), api.OK)
	read(t, d, 0, "")
	is(t, "Clear", d.Clear(1), api.OK)
	read(t, d, 1, "")
	is(t, "Clear", d.Clear(1), api.OK)
}

func TestArg(t *testing.T) {
	d := file.New()
	d.Write(1, []byte("abc"))
	for _, n := range []int{-1, 2, math.MaxInt, math.MinInt} {
		is(t, "Write", d.Write(n, []byte("a")), api.ErrArg)
		is(t, "Clear", d.Clear(n), api.ErrArg)
		is(t, "Cut", d.Cut(n, 0), api.ErrArg)
		is(t, "Spoil", d.Spoil(n, 0, nil), api.ErrArg)
		if b, e := d.Read(n); e != api.ErrArg || len(b) != 0 {
			t.Error("Read:", e)
		}
	}
	for _, size := range []int{-1, 4, math.MaxInt, math.MinInt} {
		is(t, "Cut", d.Cut(1, size), api.ErrArg)
		is(t, "Spoil", d.Spoil(1, size, []byte("q")), api.ErrArg)
	}
	read(t, d, 1, "abc")
}

func TestFull(t *testing.T) {
	d := file.New()
	most := make([]byte, api.MaxFiles)
	is(t, "Write", d.Write(0, append(most, 1)), api.ErrFull)
	read(t, d, 0, "")
	is(t, "Write", d.Write(0, most), api.OK)
	is(t, "Write", d.Write(0, []byte{1}), api.ErrFull)
	is(t, "Write", d.Write(0, nil), api.OK)
	is(t, "Write", d.Write(1, []byte("a")), api.OK)
	is(t, "Spoil", d.Spoil(0, api.MaxFiles, []byte{1}), api.ErrFull)
	is(t, "Spoil", d.Spoil(0, api.MaxFiles-1, []byte{1}), api.OK)
	is(t, "Spoil", d.Spoil(1, 1, most), api.ErrFull)
	is(t, "Spoil", d.Spoil(1, 0, most), api.OK)
	if b, _ := d.Read(0); len(b) != api.MaxFiles || b[api.MaxFiles-1] != 1 {
		t.Error("the last byte")
	}
	// A write for which there is no room costs nothing.
	d.Arm(0)
	is(t, "Write", d.Write(0, []byte{1}), api.ErrFull)
	is(t, "Cut", d.Cut(0, api.MaxFiles+1), api.ErrArg)
	if d.Off() {
		t.Error("the power is gone")
	}
}

func TestPower(t *testing.T) {
	d := file.New()
	d.Arm(2)
	is(t, "Write", d.Write(0, []byte("abc")), api.ErrOff)
	if !d.Off() {
		t.Error("there is power")
	}
	is(t, "Write", d.Write(0, []byte("x")), api.ErrOff)
	is(t, "Write", d.Write(9, nil), api.ErrOff)
	is(t, "Clear", d.Clear(9), api.ErrOff)
	is(t, "Cut", d.Cut(9, 9), api.ErrOff)
	if b, e := d.Read(9); e != api.ErrOff || len(b) != 0 {
		t.Error("Read:", e)
	}
	d.Wake()
	if d.Off() {
		t.Error("there is no power")
	}
	read(t, d, 0, "ab")
	is(t, "Write", d.Write(0, []byte("cdefghijk")), api.OK) // it is not armed any more
	read(t, d, 0, "abcdefghijk")

	// What it is armed with is just enough, and then nothing is left.
	d.Arm(5)
	is(t, "Write", d.Write(1, []byte("123")), api.OK)
	is(t, "Cut", d.Cut(1, 1), api.OK)
	read(t, d, 1, "1") // reading costs nothing
	is(t, "Clear", d.Clear(1), api.OK)
	is(t, "Write of nothing", d.Write(1, nil), api.OK)
	is(t, "Clear", d.Clear(0), api.ErrOff)
	d.Wake()
	read(t, d, 0, "abcdefghijk")
	read(t, d, 1, "")

	d.Arm(-5)
	is(t, "Cut", d.Cut(0, 3), api.ErrOff)
	d.Wake()
	read(t, d, 0, "abcdefghijk")
	d.Arm(0)
	is(t, "Write", d.Write(0, []byte("l")), api.ErrOff)
	d.Wake()
	read(t, d, 0, "abcdefghijk")
	d.Arm(3)
	d.Arm(100)
	is(t, "Write", d.Write(0, []byte("lmnop")), api.OK)
	d.Arm(3)
	d.Wake() // awake it is not armed
	is(t, "Write", d.Write(0, []byte("qrst")), api.OK)
	read(t, d, 0, "abcdefghijklmnopqrst")
}

func TestSpoil(t *testing.T) {
	d := file.New()
	d.Write(0, []byte("abcdef"))
	is(t, "Spoil", d.Spoil(0, 2, []byte("XY")), api.OK)
	read(t, d, 0, "abXY")
	is(t, "Spoil", d.Spoil(0, 4, []byte("Z")), api.OK)
	read(t, d, 0, "abXYZ")
	is(t, "Spoil", d.Spoil(0, 1, nil), api.OK)
	read(t, d, 0, "a")
	d.Arm(0)
	is(t, "Spoil", d.Spoil(1, 0, []byte("free")), api.OK)
	if d.Off() {
		t.Error("it costs")
	}
	d.Clear(0)
	is(t, "Spoil without power", d.Spoil(1, 4, []byte("!")), api.OK)
	is(t, "Spoil without power", d.Spoil(1, 6, nil), api.ErrArg)
	if !d.Off() {
		t.Error("it gives power")
	}
	d.Wake()
	read(t, d, 1, "free!")
}

func TestNil(t *testing.T) {
	var d *file.Disk
	is(t, "Write", d.Write(0, nil), api.ErrShut)
	is(t, "Clear", d.Clear(0), api.ErrShut)
	is(t, "Cut", d.Cut(9, 0), api.ErrShut)
	is(t, "Spoil", d.Spoil(9, 0, nil), api.ErrShut)
	if b, e := d.Read(0); e != api.ErrShut || len(b) != 0 || !d.Off() {
		t.Error("Read, Off:", b, e)
	}
	d.Arm(1)
	d.Wake()
	if !d.Off() {
		t.Error("awake")
	}
}

func TestShares(t *testing.T) {
	d := file.New()
	b := []byte("abc")
	d.Write(0, b)
	b[0] = 'x'
	read(t, d, 0, "abc")
	got, _ := d.Read(0)
	got[1] = 'y'
	read(t, d, 0, "abc")
	d.Spoil(1, 0, b)
	b[1] = 'z'
	read(t, d, 1, "xbc")
	old, _ := d.Read(0)
	d.Cut(0, 1)
	d.Write(0, []byte("qqqq"))
	if string(old) != "abc" {
		t.Error("what was read changes")
	}
	if string(b) != "xzc" {
		t.Error("what was handed in changes")
	}
}

// model is a disk as the document says it.
type model struct {
	files [2][]byte
	off   bool
	left  int // -1: it is not armed
}

func (m *model) cost(n int) (int, api.Errno) {
	if m.left < 0 {
		return n, api.OK
	}
	if n > m.left {
		n, m.left, m.off = m.left, -1, true
		return n, api.ErrOff
	}
	m.left -= n
	return n, api.OK
}

func TestChance(t *testing.T) {
	r := rand.New(rand.NewSource(1))
	for range 300 {
		d, m := file.New(), &model{left: -1}
		for range 60 {
			n, size := r.Intn(3), r.Intn(12)-1
			var got, want api.Errno
			bad := n > 1 || size < 0 || n < 2 && size > len(m.files[n])
			switch op := r.Intn(7); {
			case op == 0:
				d.Arm(size)
				m.left = max(size, 0)
			case op == 1:
				d.Wake()
				m.off, m.left = false, -1
			case op == 2:
				got, want = d.Spoil(n, size, []byte("sp")), api.ErrArg
				if !bad {
					want = api.OK
					m.files[n] = append(bytes.Clone(m.files[n][:size]), "sp"...)
				}
			case op == 3:
				got, want = d.Cut(n, size), api.ErrArg
				if m.off {
					want = api.ErrOff
				} else if !bad {
					var k int
					if k, want = m.cost(1); k == 1 {
						m.files[n] = m.files[n][:size]
					}
				}
			default:
				b := []byte("0123456789")[:max(size, 0)]
				got, want = d.Write(n, b), api.ErrArg
				if m.off {
					want = api.ErrOff
				} else if n < 2 {
					var k int
					k, want = m.cost(len(b))
					m.files[n] = append(bytes.Clone(m.files[n]), b[:k]...)
				}
			}
			if got != want || d.Off() != m.off {
				t.Fatal(got, want, d.Off())
			}
			for n := range 2 {
				b, e := d.Read(n)
				if m.off && e != api.ErrOff || !m.off && !bytes.Equal(b, m.files[n]) {
					t.Fatalf("%q, %d, want %q", b, e, m.files[n])
				}
			}
		}
	}
}
