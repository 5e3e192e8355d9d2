package crc_test

import (
	"bytes"
	"sync"
	"testing"

	"locket/crc"
)

// divide is the schoolbook division that P101 tells of.
func divide(b []byte, width int, poly uint32) uint32 {
	bits := make([]byte, 0, 8*len(b)+width)
	for _, x := range b {
		for k := 7; k >= 0; k-- {
			bits = append(bits, x>>k&1)
		}
	}
	bits = append(bits, make([]byte, width)...)
	for i := range 8 * len(b) {
		if bits[i] == 1 {
			for k := range width + 1 {
				bits[i+k] ^= byte((poly | 1<<width) >> (width - k) & 1)
			}
		}
	}
	var r uint32
	for _, x := range bits[8*len(b):] {
		r = r<<1 | uint32(x)
	}
	return r
}

func rows() [][]byte {
	out := [][]byte{nil, {0}, {1}, {0x80}, {0xFF}, []byte("123456789")}
	x := uint32(1)
	for n := range 70 {
		b := make([]byte, n)
		for i := range b {
			x = x*1664525 + 1013904223
			b[i] = byte(x >> 24)
		}
		out = append(out, b)
	}
	return out
}

func TestDivision(t *testing.T) { // P101
	for _, b := range rows() {
		if got, want := uint32(crc.Seven(b)), divide(b, 7, 0x09); got != want {
			t.Errorf("Seven(%x) = %x, not %x", b, got, want)
		}
		if got, want := uint32(crc.Sixteen(b)), divide(b, 16, 0x1021); got != want {
			t.Errorf("Sixteen(%x) = %x, not %x", b, got, want)
		}
	}
}

func TestExamples(t *testing.T) { // P101
	if crc.Seven([]byte{0x40, 0, 0, 0, 0}) != 0x4A || crc.Seven([]byte{0x51, 0, 0, 0, 0}) != 0x2A {
		t.Error("frames of the chapter")
	}
	if crc.Sixteen(bytes.Repeat([]byte{0xFF}, 512)) != 0x7FA1 {
		t.Error("block of the chapter")
	}
	if crc.Seven(nil) != 0 || crc.Sixteen([]byte{}) != 0 {
		t.Error("of no bytes")
	}
}

func TestSums(t *testing.T) { // P102
	s := crc.New()
	if s.Uses() != 0 {
		t.Error("uses of a new one")
	}
	var w sync.WaitGroup
	for range 6 {
		w.Add(1)
		go func() {
			defer w.Done()
			for _, b := range rows() {
				if s.Seven(b) != crc.Seven(b) || s.Sixteen(b) != crc.Sixteen(b) {
					t.Errorf("of %x", b)
				}
			}
		}()
	}
	w.Wait()
	if want := int64(6 * 2 * len(rows())); s.Uses() != want {
		t.Errorf("uses %d, not %d", s.Uses(), want)
	}
	crc.Seven([]byte{1})
	if want := int64(6 * 2 * len(rows())); s.Uses() != want {
		t.Error("another's sums are counted")
	}
}

func TestLinear(t *testing.T) { // P103
	all := rows()
	for i, a := range all[6:] {
		b := bytes.Clone(a)
		for k := range b {
			b[k] = byte(i*7 + k*k)
		}
		x := bytes.Clone(a)
		for k := range x {
			x[k] ^= b[k]
		}
		if crc.Seven(x) != crc.Seven(a)^crc.Seven(b) || crc.Sixteen(x) != crc.Sixteen(a)^crc.Sixteen(b) {
			t.Errorf("row %d", i)
		}
	}
}

// turn mixes a burst of bits, beginning at a bit, into b.
func turn(b []byte, at int, burst uint32) []byte {
	out := bytes.Clone(b)
	for k := 0; burst>>k != 0; k++ {
		if burst>>k&1 == 1 {
			out[(at+k)/8] ^= 0x80 >> ((at + k) % 8)
		}
	}
	return out
}

func TestBursts(t *testing.T) { // P103
	data := []byte("a block of bytes")
	sum := crc.Sixteen(data)
	whole := append(bytes.Clone(data), byte(sum>>8), byte(sum))
	for at := range 8*len(whole) - 15 {
		for _, burst := range []uint32{1, 3, 0x8001, 0xFFFF, 0xA5A5, 0x8421} {
			x := turn(whole, at, burst)
			n := len(data)
			if crc.Sixteen(x[:n]) == uint16(x[n])<<8|uint16(x[n+1]) {
				t.Fatalf("Sixteen: burst %x at %d is not found", burst, at)
			}
		}
	}
	frame := append([]byte("frame"), crc.Seven([]byte("frame"))<<1)
	for at := range 40 {
		for burst := uint32(1); burst < 128; burst += 2 {
			x := turn(frame, at, burst)
			if crc.Seven(x[:5]) == x[5]>>1 {
				t.Fatalf("Seven: burst %x at %d is not found", burst, at)
			}
		}
	}
}
