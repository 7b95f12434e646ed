// Package code is layer 1: see shared/doc/01-code.md.
package code

import (
	"strings"

	"chatelaine/api"
)

// The first bytes of the forms of a number that have more than one byte.
const (
	two   = 252
	four  = 253
	eight = 254
)

// first returns the first byte of the encoding of v.
func first(v uint64) byte {
	switch {
	case v < two:
		return byte(v)
	case v < 1<<16:
		return two
	case v < 1<<32:
		return four
	}
	return eight
}

// more returns how many bytes follow the first byte of a number.
func more(first byte) int {
	switch first {
	case two:
		return 2
	case four:
		return 4
	case eight:
		return 8
	}
	return 0
}

// Writer collects the encodings of values.
type Writer struct{ bytes []byte }

// U appends numbers.
func (w *Writer) U(l ...uint64) *Writer {
	for _, v := range l {
		w.number(v)
	}
	return w
}

func (w *Writer) number(v uint64) {
	mark := first(v)
	w.bytes = append(w.bytes, mark)
	n := more(mark)
	for i := range n {
		w.bytes = append(w.bytes, byte(v>>(8*(n-1-i))))
	}
}

// N appends numbers; a negative one counts as 0.
func (w *Writer) N(l ...int) *Writer {
	for _, v := range l {
		w.number(uint64(max(v, 0)))
	}
	return w
}

// B appends booleans.
func (w *Writer) B(l ...bool) *Writer {
	for _, v := range l {
		b := byte(0)
		if v {
			b = 1
		}
		w.bytes = append(w.bytes, b)
	}
	return w
}

// S appends strings.
func (w *Writer) S(l ...string) *Writer {
	for _, s := range l {
		w.number(uint64(len(s)))
		w.bytes = append(w.bytes, s...)
	}
	return w
}

// Text returns everything that was appended.
func (w *Writer) Text() string { return string(w.bytes) }

// Reader decodes values, one after the other, up to the first error.
type Reader struct {
	rest string
	err  api.Errno
}

// Read returns a Reader at the beginning of s.
func Read(s string) *Reader { return &Reader{rest: s} }

// take returns the next n bytes, or none after an error.
func (r *Reader) take(n int) string {
	if n > len(r.rest) {
		r.Fail(api.ErrEnd)
	}
	if r.err != api.OK {
		return ""
	}
	s := r.rest[:n]
	r.rest = r.rest[n:]
	return s
}

// U decodes a number.
func (r *Reader) U() uint64 {
	s := r.take(1)
	if r.err != api.OK {
		return 0
	}
	mark := s[0]
	v := uint64(mark)
	if n := more(mark); n > 0 {
		v = whole(r.take(n))
	}
	// No number begins with the byte 255, so this detects that byte as well
	// as a number that is not in the first form that fits.
	if first(v) != mark {
		r.Fail(api.ErrForm)
	}
	if r.err != api.OK {
		return 0
	}
	return v
}

// whole returns the number that consists of these bytes.
func whole(s string) uint64 {
	v := uint64(0)
	for i := range len(s) {
		v = v<<8 | uint64(s[i])
	}
	return v
}

// N decodes a number that is not greater than most.
func (r *Reader) N(most int) int {
	v := r.U()
	if v > uint64(max(most, 0)) {
		r.Fail(api.ErrBig)
		return 0
	}
	return int(v)
}

// B decodes a boolean.
func (r *Reader) B() bool {
	s := r.take(1)
	if r.err != api.OK {
		return false
	}
	if s[0] > 1 {
		r.Fail(api.ErrForm)
	}
	return s[0] == 1
}

// S decodes a string of at most most bytes.
func (r *Reader) S(most int) string {
	n := r.N(most)
	// A copy, because a result does not share memory with what is read.
	return strings.Clone(r.take(n))
}

// Fail sets the error to e if there is none.
func (r *Reader) Fail(e api.Errno) {
	if r.err == api.OK {
		r.err = e
	}
}

// Err returns the error.
func (r *Reader) Err() api.Errno { return r.err }

// Left returns how many bytes have not been read.
func (r *Reader) Left() int { return len(r.rest) }

// Done returns the error, which is ErrForm if only bytes are left.
func (r *Reader) Done() api.Errno {
	if len(r.rest) > 0 {
		r.Fail(api.ErrForm)
	}
	return r.err
}
