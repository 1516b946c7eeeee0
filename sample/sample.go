// Package sample makes values for the tests of the other packages: the same ones each time, out of a number.
package sample

import (
	"math/bits"

	"bonsai/api"
)

// Source tells numbers, one behind the other, that hang on its seed alone.
type Source struct{ state uint64 }

// New is the source of a seed.
func New(seed uint64) *Source { return &Source{state: seed*0x9e3779b97f4a7c15 + 1} }

// Next is the next number.
func (s *Source) Next() uint64 {
	s.state += 0x9e3779b97f4a7c15
	z := s.state
	z = (z ^ z>>30) * 0xbf58476d1ce4e5b9
	z = (z ^ z>>27) * 0x94d049bb133111eb
	return z ^ z>>31
}

// Below is a number from 0 to n - 1.
func (s *Source) Below(n int) int {
	high, _ := bits.Mul64(s.Next(), uint64(n))
	return int(high)
}

// OneIn tells yes about once in n times.
func (s *Source) OneIn(n int) bool { return s.Below(n) == 0 }

// Word is a text of n bytes, each of which is one of letters.
func (s *Source) Word(n int, letters string) string {
	out := make([]byte, n)
	for i := range out {
		out[i] = letters[s.Below(len(letters))]
	}
	return string(out)
}

// Bytes is a text of n bytes, whichever.
func (s *Source) Bytes(n int) string {
	out := make([]byte, n)
	for i := range out {
		out[i] = byte(s.Next())
	}
	return string(out)
}

// Set is a set of bytes: none, all, a few, or many.
func (s *Source) Set() api.Bytes {
	var out api.Bytes
	switch s.Below(6) {
	case 0:
		return out
	case 1:
		return api.Bytes{^uint64(0), ^uint64(0), ^uint64(0), ^uint64(0)}
	case 2:
		return api.Bytes{s.Next(), s.Next(), s.Next(), s.Next()}
	case 3:
		return api.Bytes{s.Next() & s.Next() & s.Next(), 0, ^s.Next(), s.Next() | s.Next()}
	}
	for range 1 + s.Below(4) {
		b := byte(s.Next())
		out[b/64] |= 1 << (b % 64)
	}
	return out
}
