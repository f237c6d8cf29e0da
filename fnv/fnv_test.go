package fnv_test

import (
	"bytes"
	"fmt"
	"hash/fnv"
	"math"
	"math/rand"
	"strings"
	"testing"

	"warrantor/api"
	own "warrantor/fnv"
)

// lib is the same sum, told by somebody else.
func lib(b []byte) uint64 {
	h := fnv.New64a()
	h.Write(b)
	return h.Sum64()
}

func some(r *rand.Rand, most int) []byte {
	b := make([]byte, r.Intn(most+1))
	r.Read(b)
	return b
}

func TestSum(t *testing.T) {
	if own.Show(own.Sum(nil)) != "cbf29ce484222325" || own.Show(own.Sum([]byte("a"))) != "af63dc4c8601ec8c" || own.Sum([]byte("foobar")) != 0x85944171f73967e8 {
		t.Error("the examples")
	}
	r := rand.New(rand.NewSource(1))
	for range 500 {
		a, b := some(r, 40), some(r, 40)
		old := bytes.Clone(b)
		if own.Sum(b) != lib(b) {
			t.Fatalf("Sum(%v) = %x", b, own.Sum(b))
		}
		if own.More(own.Sum(a), b) != lib(append(bytes.Clone(a), b...)) {
			t.Fatalf("More of %v, %v", a, b)
		}
		sum := r.Uint64()
		if own.More(sum, nil) != sum || own.Less(sum, nil) != sum {
			t.Fatal("of nothing")
		}
		if own.More(own.Less(sum, b), b) != sum || own.Less(own.More(sum, b), b) != sum {
			t.Fatalf("Less(%x, %v) = %x", sum, b, own.Less(sum, b))
		}
		if own.Less(own.Sum(append(bytes.Clone(a), b...)), b) != own.Sum(a) {
			t.Fatalf("Less of %v, %v", a, b)
		}
		if !bytes.Equal(b, old) {
			t.Fatal("changed")
		}
	}
	for _, sum := range []uint64{0, 1, math.MaxUint64, 1 << 63} {
		for c := range 256 {
			b := []byte{byte(c)}
			if own.Less(own.More(sum, b), b) != sum {
				t.Errorf("%x and %d", sum, c)
			}
		}
	}
}

// Bytes that are unlike in one place only have unlike sums.
func TestOnePlace(t *testing.T) {
	b := []byte("warrantor")
	for i := range b {
		seen := map[uint64]bool{}
		for c := range 256 {
			x := bytes.Clone(b)
			x[i] = byte(c)
			seen[own.Sum(x)] = true
		}
		if len(seen) != 256 {
			t.Errorf("the place %d: %d sums", i, len(seen))
		}
	}
}

func TestShowParse(t *testing.T) {
	r := rand.New(rand.NewSource(2))
	for _, sum := range []uint64{0, 1, 15, 16, 255, 0x0123456789abcdef, 0xfedcba9876543210, math.MaxUint64, 1 << 63, r.Uint64(), r.Uint64() >> 20} {
		s := own.Show(sum)
		if s != fmt.Sprintf("%016x", sum) {
			t.Errorf("Show(%x) = %q", sum, s)
		}
		if got, e := own.Parse(s); got != sum || e != api.OK {
			t.Errorf("Parse(%q) = %x, %d", s, got, e)
		}
	}
	for _, s := range []string{
		"", "0", "000000000000000", "00000000000000000", "000000000000000g", "000000000000000A", "ABCDEF0123456789", "0x00000000000000", " 000000000000000", "000000000000000 ", "-000000000000000", "+000000000000000", "00000000_0000000", "000000000000000\n", "00000000000000é", "٠0000000000000", "000000000000000`", "000000000000000/", "000000000000000:", strings.Repeat("0", 1<<16),
	} {
		if got, e := own.Parse(s); got != 0 || e != api.ErrHex {
			t.Errorf("Parse(%q) = %x, %d", s, got, e)
		}
	}
}
