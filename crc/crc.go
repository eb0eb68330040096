// Package crc is layer 1: see shared/doc/01-crc.md.
package crc

import "strings"

const (
	highest    = 1 << 15 // the register's highest bit
	most       = 1<<16 - 1
	polynomial = 4129
	firstBit   = 1 << 7 // of a byte
	sumSize    = 2      // bytes of a sum
)

// New is the sum of nothing, Add that of bytes behind others, Sum that of a text.
func New() int { return most }

func Add(r int, s string) int {
	r &= most
	for i := range len(s) {
		r = addByte(r, s[i])
	}
	return r
}

func Sum(s string) int { return Add(New(), s) }

func addByte(r int, b byte) int {
	// The byte's bits pass one by one below the register's highest one.
	bits := int(b) << 8
	left := 8
next:
	unlike := (r^bits)&highest != 0
	r = (r << 1) & most
	if unlike {
		r ^= polynomial
	}
	bits <<= 1
	left--
	if left > 0 {
		goto next
	}
	return r
}

// Close is a text with its sum behind it, Open is what stands ahead of a right one.
func Close(s string) string { return s + tail(s) }

func Open(s string) (string, bool) {
	end := len(s) - sumSize
	if end < 0 || tail(s[:end]) != s[end:] {
		return "", false
	}
	// A piece of s would share its memory, and an answer is new memory.
	return strings.Clone(s[:end]), true
}

// tail is what Close puts behind a text.
func tail(s string) string {
	sum := Sum(s)
	return string([]byte{byte(sum >> 8), byte(sum)})
}

// Burst turns bits of a text.
func Burst(s string, at, mask int) string {
	text := []byte(s)
	bits := 8 * len(text)
	if at < 0 || at >= bits {
		return string(text)
	}
	turn := highest
next:
	if mask&turn != 0 {
		text[at/8] ^= firstBit >> (at % 8)
	}
	turn >>= 1
	at++
	if turn > 0 && at < bits {
		goto next
	}
	return string(text)
}
