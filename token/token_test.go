package token_test

import (
	"bytes"
	"testing"

	"locket/api"
	"locket/crc"
	"locket/token"
)

func row(n int) []byte {
	b := make([]byte, n)
	for i := range b {
		b[i] = byte(i*13 + n)
	}
	return b
}

func reads(t *testing.T, what string, b []byte, size int, block []byte, taken int, e api.Errno) {
	t.Helper()
	if got, n, err := token.Read(b, size); !bytes.Equal(got, block) || n != taken || err != e {
		t.Errorf("%s: %x %d %v", what, got, n, err)
	}
}

func TestLay(t *testing.T) { // P1801, P1803
	for _, n := range []int{0, 1, 128, 448, 4096} {
		b := token.Lay(row(n))
		sum := crc.Sixteen(row(n))
		if len(b) != n+3 || b[0] != 0xFE || b[n+1] != byte(sum>>8) || b[n+2] != byte(sum) {
			t.Errorf("%d bytes", n)
		}
		reads(t, "laid", append(b, 1, 2), n, row(n), n+3, api.OK)
		reads(t, "short", b[:n+2], n, nil, 0, api.ErrShort)
	}
	b := token.Lay(row(9))
	reads(t, "nothing", nil, 9, nil, 0, api.ErrShort)
	reads(t, "nothing", nil, -1, nil, 0, api.ErrShort)
	reads(t, "size", b, -1, nil, 0, api.ErrForm)
	reads(t, "size", b, 4097, nil, 0, api.ErrForm)
	reads(t, "start", b[1:], 9, nil, 0, api.ErrForm)
	reads(t, "start alone", b[:1], 9, nil, 0, api.ErrShort)
	for e, want := range map[api.Errno]byte{api.OK: 0xE5, api.ErrSum: 0xEB, api.ErrArg: 0xED, 99: 0xED, -1: 0xED} {
		if token.Answer(e) != want {
			t.Errorf("%v: %x", e, token.Answer(e))
		}
	}
}

func TestBurst(t *testing.T) { // P1803
	b := token.Lay(row(30))
	for at := 8; at+16 <= 8*len(b); at++ {
		for _, burst := range []int{1, 0x8001, 0xFFFF, 0x9249, 7} {
			x := bytes.Clone(b)
			for k := range 16 {
				if burst>>k&1 == 1 {
					x[(at+k)/8] ^= 0x80 >> ((at + k) % 8)
				}
			}
			reads(t, "burst", x, 30, nil, 0, api.ErrSum)
		}
	}
}

func TestSplit(t *testing.T) { // P1802
	l := [][]byte{row(5), {1, 2, 3, 4, 5}, row(5)}
	b := token.Join(l...)
	split := func(what string, b []byte, size, blocks, taken int, e api.Errno) {
		t.Helper()
		got, n, err := token.Split(b, size)
		if len(got) != blocks || n != taken || err != e {
			t.Errorf("%s: %d blocks, %d, %v", what, len(got), n, err)
		}
		for i := range got {
			if !bytes.Equal(got[i], l[i]) {
				t.Errorf("%s: block %d", what, i)
			}
		}
	}
	split("all", b, 5, 3, 24, api.OK)
	split("none", nil, 5, 0, 0, api.OK)
	split("short", b[:20], 5, 2, 16, api.ErrShort)
	split("size", b, 6, 0, 0, api.ErrSum)
	split("size", b, -5, 0, 0, api.ErrForm)
	wrong := bytes.Clone(b)
	wrong[10] ^= 1
	split("sum", wrong, 5, 1, 8, api.ErrSum)
	split("form", append(bytes.Clone(b), 7), 5, 3, 24, api.ErrForm)
	if len(token.Join()) != 0 {
		t.Error("of nothing")
	}
}

func TestEach(t *testing.T) { // P1802, P2
	l := [][]byte{{1}, {2}, {3}}
	n := 0
	token.Each(l, func(i int, b []byte) bool {
		if i != n || b[0] != byte(i+1) {
			t.Error(i, b)
		}
		b[0] = 99
		n++
		return n < 2
	})
	if n != 2 || l[0][0] != 1 {
		t.Error("it goes on, or what was handed in is changed")
	}
}
