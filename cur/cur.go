// Package cur is layer 2: what is read and written. See shared/doc/02-cur.md.
package cur

import (
	"slices"

	"warrantor/api"
	"warrantor/leb"
)

// Pen is what was written.
type Pen struct{ b []byte }

// New tells a pen that has written nothing.
func New() *Pen { return &Pen{} }

// put writes b behind all that was written.
func (p *Pen) put(b []byte) {
	if p != nil {
		p.b = append(p.b, b...)
	}
}

// U writes a number.
func (p *Pen) U(n uint64) { p.put(leb.Put(n)) }

// I writes a signed number.
func (p *Pen) I(n int64) { p.put(leb.PutInt(n)) }

// Byte writes the lowest eight bits of n.
func (p *Pen) Byte(n int) { p.put([]byte{byte(n)}) }

// Word writes four bytes, the lowest one first.
func (p *Pen) Word(n uint32) {
	p.put([]byte{byte(n), byte(n >> 8), byte(n >> 16), byte(n >> 24)})
}

// Text writes how many bytes s has, and these.
func (p *Pen) Text(s string) {
	p.U(uint64(len(s)))
	p.put([]byte(s))
}

// Bytes tells what was written.
func (p *Pen) Bytes() []byte {
	if p == nil {
		return nil
	}
	return slices.Clone(p.b)
}

// Reader is bytes, a place in them, and why it has failed.
type Reader struct {
	b  []byte
	at int
	e  api.Errno
}

// stop is what a step panics with, when something can not be read.
type stop struct{ e api.Errno }

// From tells a reader of b.
func From(b []byte) *Reader { return &Reader{b: slices.Clone(b)} }

// ask reads by a step. Where that stops, the reader fails at the place where it stood ahead of the whole step.
func ask[T any](r *Reader, step func(*Reader) T) (v T) {
	if r.Err() != api.OK {
		return v
	}
	from := r.at
	defer func() {
		if x := recover(); x != nil {
			s, ok := x.(stop)
			if !ok {
				panic(x)
			}
			var none T
			v, r.at, r.e = none, from, s.e
		}
	}()
	return step(r)
}

// U reads a number.
func (r *Reader) U() uint64 { return ask(r, (*Reader).number) }

// I reads a signed number.
func (r *Reader) I() int64 { return ask(r, (*Reader).signed) }

// Byte reads a byte.
func (r *Reader) Byte() int { return ask(r, (*Reader).one) }

// Word reads four bytes, the lowest one first.
func (r *Reader) Word() uint32 { return ask(r, (*Reader).word) }

// Count reads a number that is at most most.
func (r *Reader) Count(most int) int {
	return ask(r, func(r *Reader) int { return r.count(most) })
}

// Text reads a text of at most so many bytes.
func (r *Reader) Text(most int) string {
	return ask(r, func(r *Reader) string { return string(r.take(r.count(most))) })
}

func (r *Reader) number() uint64 {
	n, size, e := leb.Get(r.b[r.at:])
	return pass(r, n, size, e)
}

func (r *Reader) signed() int64 {
	n, size, e := leb.GetInt(r.b[r.at:])
	return pass(r, n, size, e)
}

// pass goes on behind a number that leb told, or stops with leb's error.
func pass[T any](r *Reader, n T, size int, e api.Errno) T {
	if e != api.OK {
		panic(stop{e})
	}
	r.at += size
	return n
}

func (r *Reader) one() int { return int(r.take(1)[0]) }

func (r *Reader) word() uint32 {
	b := r.take(4)
	return uint32(b[0]) | uint32(b[1])<<8 | uint32(b[2])<<16 | uint32(b[3])<<24
}

func (r *Reader) count(most int) int {
	n := r.number()
	if most < 0 || n > uint64(most) {
		panic(stop{api.ErrLong})
	}
	return int(n)
}

// take goes on behind the next n bytes, and tells them.
func (r *Reader) take(n int) []byte {
	if n > len(r.b)-r.at {
		panic(stop{api.ErrShort})
	}
	r.at += n
	return r.b[r.at-n : r.at]
}

// Fail makes the reader fail with e, unless it has failed.
func (r *Reader) Fail(e api.Errno) {
	if e == api.OK {
		e = api.ErrArg
	}
	if r.Err() == api.OK {
		r.e = e
	}
}

// End makes the reader fail, if bytes are left.
func (r *Reader) End() {
	if r.Left() > 0 {
		r.Fail(api.ErrLong)
	}
}

// At tells the reader's place.
func (r *Reader) At() int {
	if r == nil {
		return 0
	}
	return r.at
}

// Left tells how many bytes stand behind the reader's place.
func (r *Reader) Left() int {
	if r.Err() != api.OK {
		return 0
	}
	return len(r.b) - r.at
}

// Err tells why the reader has failed.
func (r *Reader) Err() api.Errno {
	if r == nil {
		return api.ErrShut
	}
	return r.e
}
