// Package bits is layer 1: numbers as fields of bits and as bytes (see shared/doc/01-bits.md).
package bits

import "imago/api"

const (
	numberBits = 64 // bits of a number that has fields
	fieldBits  = 32 // bits of the widest field
	wordBits   = 16
	byteBits   = 8
	halfBits   = 4 // bits of a half byte
	mostBytes  = 4 // bytes of the longest number that is written
)

// onesOfHalf has for each half byte how many of its bits are 1.
var onesOfHalf = [1 << halfBits]int{0, 1, 1, 2, 1, 2, 2, 3, 1, 2, 2, 3, 2, 3, 3, 4}

// isField tells whether there is such a field in 64 bits.
func isField(from, width int) bool {
	if width < 1 || width > fieldBits {
		return false
	}
	// The sum of from and width could wrap round, this difference can't.
	return from >= 0 && from <= numberBits-width
}

// mask has its lowest width bits 1.
func mask(width int) uint64 { return uint64(1)<<width - 1 }

// fits tells whether v has at most width bits.
func fits(v uint32, width int) bool { return uint64(v) <= mask(width) }

// Cut cuts a field out.
func Cut(n uint64, from, width int) (uint32, api.Errno) {
	if !isField(from, width) {
		return 0, api.ErrArg
	}
	return uint32(n >> from & mask(width)), api.OK
}

// Put puts a field in.
func Put(n uint64, from, width int, v uint32) (uint64, api.Errno) {
	if !isField(from, width) {
		return 0, api.ErrArg
	}
	if !fits(v, width) {
		return 0, api.ErrLong
	}
	return n&^(mask(width)<<from) | uint64(v)<<from, api.OK
}

// Sign is a number with a sign.
func Sign(v uint32, width int) (int32, api.Errno) {
	if width < 1 || width > fieldBits {
		return 0, api.ErrArg
	}
	if !fits(v, width) {
		return 0, api.ErrLong
	}
	// A signed number that is shifted to the right is filled up with its highest bit.
	spare := fieldBits - width
	return int32(v<<spare) >> spare, api.OK
}

// Word are the lowest 16 bits.
func Word(v int) uint16 { return uint16(v) }

// Signed is a word as a number with a sign.
func Signed(w uint16) int { return int(int16(w)) }

// Turn turns a word to the left, or to the right by a number below 0.
func Turn(w uint16, by int) uint16 {
	// In two's complement the lowest four bits of any number are what is left of it beyond whole turns of 16.
	left := by & (wordBits - 1)
	return w<<left | w>>(wordBits-left)
}

// Bytes are a number's bytes, the highest first.
func Bytes(v uint32, size int) (string, api.Errno) {
	if size < 1 || size > mostBytes {
		return "", api.ErrArg
	}
	if !fits(v, byteBits*size) {
		return "", api.ErrLong
	}
	out := make([]byte, size)
	for i := range size {
		out[size-1-i] = byte(v >> (byteBits * i))
	}
	return string(out), api.OK
}

// Num is the number of bytes.
func Num(s string) (uint32, api.Errno) {
	if len(s) < 1 || len(s) > mostBytes {
		return 0, api.ErrArg
	}
	var v uint32
	for i := range len(s) {
		v = v<<byteBits | uint32(s[i])
	}
	return v, api.OK
}

// Ones is how many bits are 1.
func Ones(w uint16) int {
	count := 0
	for rest := w; rest != 0; rest >>= halfBits {
		count += onesOfHalf[rest&(1<<halfBits-1)]
	}
	return count
}
