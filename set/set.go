// Package set is layer 1: sets of bytes.
package set

import (
	"iter"
	"math/bits"
	"strings"

	"bonsai/api"
)

// Of is the set of a text's bytes.
func Of(s string) api.Bytes {
	var out api.Bytes
	for i := 0; i < len(s); i++ {
		out = with(out, s[i])
	}
	return out
}

// Range is the set of all bytes from a to b.
func Range(a, b byte) api.Bytes {
	var out api.Bytes
	for i := int(a); i <= int(b); i++ {
		out = with(out, byte(i))
	}
	return out
}

// All is the set of all bytes.
func All() api.Bytes { return Not(api.Bytes{}) }

// Has tells whether a byte is in a set.
func Has(s api.Bytes, b byte) bool { return s[b/64]>>(b%64)&1 == 1 }

// Or is what is in either.
func Or(a, b api.Bytes) api.Bytes {
	for i := range a {
		a[i] |= b[i]
	}
	return a
}

// And is what is in both.
func And(a, b api.Bytes) api.Bytes {
	for i := range a {
		a[i] &= b[i]
	}
	return a
}

// Minus is what is in the first one alone.
func Minus(a, b api.Bytes) api.Bytes {
	for i := range a {
		a[i] &^= b[i]
	}
	return a
}

// Not is what is not in a set.
func Not(s api.Bytes) api.Bytes {
	for i := range s {
		s[i] = ^s[i]
	}
	return s
}

// Len is how many bytes are in a set.
func Len(s api.Bytes) int {
	n := 0
	for _, word := range s {
		n += bits.OnesCount64(word)
	}
	return n
}

// List is the bytes of a set, rising.
func List(s api.Bytes) string {
	var out []byte
	for b := range each(s) {
		out = append(out, b)
	}
	return string(out)
}

// Runs is the runs of a set: from which byte to which.
func Runs(s api.Bytes) [][2]byte {
	var out [][2]byte
	for b := range each(s) {
		last := len(out) - 1
		if last >= 0 && int(out[last][1])+1 == int(b) {
			out[last][1] = b
		} else {
			out = append(out, [2]byte{b, b})
		}
	}
	return out
}

// Subset tells whether all of a are in b.
func Subset(a, b api.Bytes) bool { return And(a, b) == a }

// Meets tells whether a byte is in both.
func Meets(a, b api.Bytes) bool { return And(a, b) != api.Bytes{} }

// Only is the byte of a set of one.
func Only(s api.Bytes) (byte, bool) {
	if Len(s) != 1 {
		return 0, false
	}
	return List(s)[0], true
}

// Compare is how two sets stand by their lists.
func Compare(a, b api.Bytes) int {
	if a == b {
		return 0
	}
	return strings.Compare(List(a), List(b))
}

func with(s api.Bytes, b byte) api.Bytes {
	s[b/64] |= 1 << (b % 64)
	return s
}

// each tells a set's bytes, rising.
func each(s api.Bytes) iter.Seq[byte] {
	return func(yield func(byte) bool) {
		for i, word := range s {
			for ; word != 0; word &= word - 1 {
				if !yield(byte(64*i + bits.TrailingZeros64(word))) {
					return
				}
			}
		}
	}
}
