// Package crc: sums of frames and blocks. See doc/01-crc.md.
package crc

import (
	"sync"
	"sync/atomic"
)

// polySeven is the polynomial without its highest term, in the upper seven bits of a byte.
const polySeven = 0x09 << 1

// Sums makes its tables at the first use.
type Sums struct {
	once    sync.Once
	seven   [256]byte
	sixteen [256]uint16
	uses    atomic.Int64
}

// New is a Sums that has told nothing yet.
func New() *Sums { return &Sums{} }

// Seven is the sum of frames, by a table.
func (s *Sums) Seven(b []byte) byte {
	s.once.Do(s.fill)
	s.uses.Add(1)
	var r byte
	for _, x := range b {
		r = s.seven[r^x]
	}
	return r >> 1
}

// Sixteen is the sum of blocks, by a table.
func (s *Sums) Sixteen(b []byte) uint16 {
	s.once.Do(s.fill)
	s.uses.Add(1)
	var r uint16
	for _, x := range b {
		r = r<<8 ^ s.sixteen[byte(r>>8)^x]
	}
	return r
}

// Uses is how many sums were told.
func (s *Sums) Uses() int64 { return s.uses.Load() }

func (s *Sums) fill() {
	for i := range 256 {
		s.seven[i] = stepSeven(0, byte(i))
		s.sixteen[i] = stepSixteen(0, byte(i))
	}
}

// Seven is the sum of frames.
func Seven(b []byte) byte {
	var r byte
	for _, x := range b {
		r = stepSeven(r, x)
	}
	return r >> 1
}

// Sixteen is the sum of blocks.
func Sixteen(b []byte) uint16 {
	var r uint16
	for _, x := range b {
		r = stepSixteen(r, x)
	}
	return r
}

// stepSeven takes one byte more; the remainder stands in the upper seven bits.
func stepSeven(r, x byte) byte {
	r ^= x
	for range 8 {
		top := r >> 7
		r = r<<1 ^ top*polySeven
	}
	return r
}

// stepSixteen takes one byte more: the polynomial has so few terms that all eight bits go at once.
func stepSixteen(r uint16, x byte) uint16 {
	t := r>>8 ^ uint16(x)
	t ^= t >> 4
	return r<<8 ^ t<<12 ^ t<<5 ^ t
}
