package ecc_test

import (
	"bytes"
	"math/bits"
	"testing"

	"locket/ecc"
)

var some = []uint64{0, 1, 3, 1 << 63, ^uint64(0), 0x0123456789ABCDEF, 0xDEADBEEFCAFEF00D}

func TestColumns(t *testing.T) { // P201
	want := []byte{}
	for _, n := range []int{3, 5} {
		for x := range 256 {
			if bits.OnesCount8(byte(x)) == n && len(want) < 64 {
				want = append(want, byte(x))
			}
		}
	}
	for bit, c := range want {
		if ecc.Column(bit) != c || ecc.Check(1<<bit) != c {
			t.Errorf("bit %d: %x, check %x, not %x", bit, ecc.Column(bit), ecc.Check(1<<bit), c)
		}
	}
	for _, bit := range []int{-1, 64, 1 << 40, -1 << 60} {
		if ecc.Column(bit) != 0 {
			t.Errorf("column of %d", bit)
		}
	}
	if ecc.Column(0) != 7 || ecc.Column(55) != 0xE0 || ecc.Column(56) != 0x1F || ecc.Check(3) != 0x0C || ecc.Check(0) != 0 {
		t.Error("examples")
	}
	for _, w := range some {
		var c byte
		for bit := range 64 {
			if w>>bit&1 == 1 {
				c ^= ecc.Column(bit)
			}
		}
		if ecc.Check(w) != c || ecc.Syndrome(w, 0x5A) != c^0x5A {
			t.Errorf("check of %x", w)
		}
	}
}

func TestMend(t *testing.T) { // P202, P204
	for _, w := range some {
		c := ecc.Check(w)
		if x, d, k := ecc.Mend(w, c); x != w || d != c || k != ecc.Fine {
			t.Errorf("%x is not fine", w)
		}
		for i := range 72 {
			tw, tc := turned(w, c, i)
			if x, d, k := ecc.Mend(tw, tc); x != w || d != c || k != ecc.Mended {
				t.Errorf("%x, bit %d: %x %x %d", w, i, x, d, k)
			}
			for j := range i {
				uw, uc := turned(tw, tc, j)
				if x, d, k := ecc.Mend(uw, uc); x != uw || d != uc || k != ecc.Bad {
					t.Errorf("%x, bits %d and %d: %x %x %d", w, i, j, x, d, k)
				}
			}
		}
	}
}

func turned(w uint64, c byte, bit int) (uint64, byte) {
	if bit < 64 {
		return w ^ 1<<bit, c
	}
	return w, c ^ 1<<(bit-64)
}

func TestWords(t *testing.T) { // P203
	b := []byte("a row that has no whole words")
	for n := range len(b) + 1 {
		row := b[:n]
		long := append(bytes.Clone(row), make([]byte, 8)...)
		c := ecc.Words(row)
		if len(c) != (n+7)/8 {
			t.Fatalf("%d bytes: %d checks", n, len(c))
		}
		for i := range c {
			var w uint64
			for k := range 8 {
				w |= uint64(long[8*i+k]) << (8 * k)
			}
			if c[i] != ecc.Check(w) {
				t.Errorf("%d bytes: check %d", n, i)
			}
		}
		if got, m, ok := ecc.MendAll(row, c); !bytes.Equal(got, row) || m != 0 || !ok {
			t.Errorf("%d bytes are not fine", n)
		}
	}
}

func TestMendAll(t *testing.T) { // P203, P204
	b := []byte("twenty-one bytes long")
	c := ecc.Words(b)
	for bit := range 8 * len(b) {
		x := bytes.Clone(b)
		x[bit/8] ^= 1 << (bit % 8)
		keep := bytes.Clone(x)
		if got, m, ok := ecc.MendAll(x, c); !bytes.Equal(got, b) || m != 1 || !ok {
			t.Errorf("bit %d is not mended", bit)
		}
		if !bytes.Equal(x, keep) {
			t.Error("what was handed in is changed")
		}
	}
	x, d := bytes.Clone(b), bytes.Clone(c)
	x[0] ^= 1
	x[8] ^= 0x80
	d[2] ^= 4
	if got, m, ok := ecc.MendAll(x, d); !bytes.Equal(got, b) || m != 3 || !ok {
		t.Errorf("three words: %q %d %v", got, m, ok)
	}
	x[1] ^= 1
	none(t, "two bits", x, d)
	none(t, "few checks", b, c[:2])
	none(t, "many checks", b, append(bytes.Clone(c), 0))
	none(t, "checks of nothing", nil, []byte{0})
	d = bytes.Clone(c)
	d[2] ^= ecc.Column(40) // bit 40 of the last word is behind the end
	none(t, "a bit behind the end", b, d)
	if got, m, ok := ecc.MendAll(nil, nil); len(got) != 0 || m != 0 || !ok {
		t.Error("of nothing")
	}
}

func none(t *testing.T, what string, b, c []byte) {
	t.Helper()
	if got, m, ok := ecc.MendAll(b, c); len(got) != 0 || m != 0 || ok {
		t.Errorf("%s: %x %d %v", what, got, m, ok)
	}
}
