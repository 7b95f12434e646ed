// Package seal is layer 2: see shared/doc/02-seal.md.
package seal

import (
	"strings"

	"chatelaine/api"
)

// Over is the number of bytes of a frame besides its content, and Most the
// greatest number of bytes of a content.
const (
	Over = 8
	Most = 1 << 20
)

// head is the number of bytes before the content: the kind and the length.
const head = 4

// Sum returns the checksum of the strings, one after the other.
func Sum(l ...string) uint32 {
	reg := ^uint32(0)
	for _, s := range l {
		for i := range len(s) {
			reg = shift(reg, s[i])
		}
	}
	return ^reg
}

// shift moves the bits of b through the register.
func shift(reg uint32, b byte) uint32 {
	reg ^= uint32(b)
	for range 8 {
		// -(reg & 1) is all ones if the last bit is 1, and 0 otherwise; a
		// branch that nobody can predict would be much slower.
		reg = reg>>1 ^ 0xedb88320&-(reg&1)
	}
	return reg
}

// Frame returns a frame of that kind with the content s.
func Frame(kind byte, s string) string {
	in := s[:min(len(s), Most)]
	first := put(uint32(max(kind, 1))<<24 | uint32(len(in)))
	return first + in + put(Sum(first, in))
}

// put returns v as four bytes, and get is its inverse.
func put(v uint32) string {
	return string([]byte{byte(v >> 24), byte(v >> 16), byte(v >> 8), byte(v)})
}

func get(s string) uint32 {
	return uint32(s[0])<<24 | uint32(s[1])<<16 | uint32(s[2])<<8 | uint32(s[3])
}

// Open reads the frame at the beginning of s.
func Open(s string) (kind byte, in string, e api.Errno) {
	if len(s) < head {
		return 0, "", api.ErrEnd
	}
	first := get(s)
	kind = byte(first >> 24)
	end := head + int(first&0xffffff)
	switch {
	case kind == 0:
		return 0, "", api.ErrForm
	case end > head+Most:
		return 0, "", api.ErrBig
	case len(s) < end-head+Over:
		return 0, "", api.ErrEnd
	case Sum(s[:end]) != get(s[end:]):
		return 0, "", api.ErrSum
	}
	// A copy, because a result does not share memory with an argument.
	return kind, strings.Clone(s[head:end]), api.OK
}

// Part is the kind and the content of a frame.
type Part struct {
	Kind byte
	In   string
}

// Scan reads frames as long as they are complete; it also returns their total
// length.
func Scan(s string) ([]Part, int) {
	var l []Part
	n := 0
	for {
		kind, in, e := Open(s[n:])
		if e != api.OK {
			return l, n
		}
		l = append(l, Part{kind, in})
		n += len(in) + Over
	}
}
