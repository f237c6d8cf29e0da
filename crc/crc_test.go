package crc_test

import (
	"bytes"
	"hash/crc32"
	"math"
	"math/rand"
	"testing"

	"warrantor/crc"
)

// lib is the same sum, told by somebody else.
func lib(b []byte) uint32 { return crc32.Checksum(b, crc32.MakeTable(crc32.Castagnoli)) }

func some(r *rand.Rand, most int) []byte {
	b := make([]byte, r.Intn(most+1))
	r.Read(b)
	return b
}

func TestSum(t *testing.T) {
	for _, c := range []struct {
		s   string
		sum uint32
	}{{"", 0}, {"123456789", 0xe3069283}, {"a", 0xc1d04330}} {
		if sum := crc.Sum([]byte(c.s)); sum != c.sum {
			t.Errorf("Sum(%q) = %x, want %x", c.s, sum, c.sum)
		}
	}
	if crc.Sum(nil) != 0 || crc.Sum(make([]byte, 32)) != 0x8a9136aa || crc.Sum(bytes.Repeat([]byte{255}, 32)) != 0x62a8ab43 {
		t.Error("zeros, or ones")
	}
	r := rand.New(rand.NewSource(1))
	for range 300 {
		b := some(r, 100)
		old := bytes.Clone(b)
		if crc.Sum(b) != lib(b) || !bytes.Equal(old, b) {
			t.Errorf("Sum(%v) = %x, want %x", old, crc.Sum(b), lib(old))
		}
	}
}

func TestMore(t *testing.T) {
	r := rand.New(rand.NewSource(2))
	for range 300 {
		a, b := some(r, 50), some(r, 50)
		if got := crc.More(crc.Sum(a), b); got != lib(append(bytes.Clone(a), b...)) {
			t.Errorf("More of %v, %v = %x", a, b, got)
		}
		sum := r.Uint32()
		if crc.More(sum, nil) != sum || crc.More(0, b) != crc.Sum(b) {
			t.Errorf("More of nothing, or %v", b)
		}
		if got := crc.More(crc.More(sum, a), b); got != crc.More(sum, append(bytes.Clone(a), b...)) {
			t.Errorf("More of any sum %x: %x", sum, got)
		}
	}
}

func TestZeros(t *testing.T) {
	r := rand.New(rand.NewSource(3))
	for n := range 300 {
		sum := r.Uint32()
		if got, want := crc.Zeros(sum, n), crc.More(sum, make([]byte, n)); got != want {
			t.Errorf("Zeros(%x, %d) = %x, want %x", sum, n, got, want)
		}
	}
	if got, want := crc.Zeros(7, 1<<20+3), crc.More(7, make([]byte, 1<<20+3)); got != want {
		t.Errorf("many zeros: %x, want %x", got, want)
	}
	for _, n := range []int{0, -1, -8, math.MinInt} {
		if got := crc.Zeros(0x12345678, n); got != 0x12345678 {
			t.Errorf("Zeros of %d: %x", n, got)
		}
	}
	// As many as can be, and in two parts.
	whole := crc.Zeros(5, math.MaxInt)
	if half := crc.Zeros(crc.Zeros(5, math.MaxInt/2), math.MaxInt/2+1); half != whole {
		t.Errorf("%x in parts is %x", whole, half)
	}
}

func TestJoin(t *testing.T) {
	r := rand.New(rand.NewSource(4))
	for range 300 {
		a, b := some(r, 70), some(r, 70)
		if got := crc.Join(crc.Sum(a), crc.Sum(b), len(b)); got != lib(append(bytes.Clone(a), b...)) {
			t.Errorf("Join of %v, %v = %x", a, b, got)
		}
	}
	b := make([]byte, 1<<20)
	if got := crc.Join(crc.Sum([]byte("a")), crc.Sum(b), len(b)); got != lib(append([]byte("a"), b...)) {
		t.Errorf("Join of many: %x", got)
	}
	for _, n := range []int{0, -1, math.MinInt} {
		if got := crc.Join(0xabcdef01, 0, n); got != 0xabcdef01 {
			t.Errorf("Join with nothing (%d): %x", n, got)
		}
	}
	// Join of three rows does not hang on which two are joined first, however long they are.
	n, m := math.MaxInt/3, math.MaxInt/5
	left := crc.Join(crc.Join(1, 2, n), 3, m)
	if right := crc.Join(1, crc.Join(2, 3, m), n+m); left != right {
		t.Errorf("%x, %x", left, right)
	}
}

func TestWhole(t *testing.T) {
	b := []byte("beacon")
	if !crc.Whole(b, crc.Sum(b)) || crc.Whole(b, crc.Sum(b)^1) || crc.Whole(b[1:], crc.Sum(b)) || !crc.Whole(nil, 0) || crc.Whole(nil, 1) {
		t.Error("Whole")
	}
	for i := range 32 {
		if crc.Whole(b, crc.Sum(b)^1<<uint(i)) {
			t.Errorf("the bit %d is of no account", i)
		}
	}
}

// Some bits turned within 32 in a row make another sum.
func TestTurned(t *testing.T) {
	r := rand.New(rand.NewSource(5))
	for range 2000 {
		b := append(some(r, 20), make([]byte, 8)...)
		sum := crc.Sum(b)
		turn, at := uint64(r.Uint32()>>uint(r.Intn(32)))|1, r.Intn(8*len(b)-31)
		for i := range 32 {
			if turn>>uint(i)&1 == 1 {
				b[(at+i)/8] ^= 1 << uint((at+i)%8)
			}
		}
		if crc.Sum(b) == sum {
			t.Errorf("%x turned at %d is not seen", turn, at)
		}
	}
}
