package page_test

import (
	"bytes"
	"testing"

	"locket/api"
	"locket/ecc"
	"locket/nand"
	"locket/page"
)

func data(n int) []byte {
	b := make([]byte, n)
	for i := range b {
		b[i] = byte(i*31 + 5)
	}
	return b
}

func TestLay(t *testing.T) { // P501
	for n, want := range map[int]int{-5: 1, 0: 1, 1: 1, 64: 1, 65: 2, 512: 8, 513: 9} {
		if page.Chunks(n) != want {
			t.Errorf("Chunks(%d) = %d", n, page.Chunks(n))
		}
	}
	for _, x := range [][2]int{{0, 0}, {0, -1}, {0, 9}, {65, 1}, {513, 8}} {
		if raw, e := page.Lay(data(x[0]), x[1]); raw != nil || e != api.ErrArg {
			t.Errorf("%v: %v", x, e)
		}
	}
	d := data(100)
	raw, e := page.Lay(d, 2)
	if e != api.OK || len(raw) != 146 {
		t.Fatal(e, len(raw))
	}
	padded := append(bytes.Clone(d), make([]byte, 28)...)
	for i := range 2 {
		c := raw[i*73 : (i+1)*73]
		if !bytes.Equal(c[:64], padded[i*64:(i+1)*64]) || !bytes.Equal(c[64:72], ecc.Words(padded[i*64:(i+1)*64])) || c[72] != 0 {
			t.Errorf("chunk %d", i)
		}
	}
}

func TestState(t *testing.T) { // P502
	for b := range 256 {
		n := 0
		for k := range 8 {
			n += b >> k & 1
		}
		if page.Mark(byte(b)) != (n <= 4) {
			t.Errorf("mark %x", b)
		}
	}
	raw, _ := page.Lay(data(128), 2)
	blank := bytes.Repeat([]byte{0xFF}, 146)
	torn := append(bytes.Clone(raw[:73]), blank[73:]...)
	later := append(bytes.Clone(blank[:73]), raw[73:]...)
	for _, x := range []struct {
		raw  []byte
		want int
	}{{raw, page.Whole}, {blank, page.Blank}, {torn, page.Torn}, {later, page.Torn}, {nil, page.Bad}, {raw[:72], page.Bad}, {make([]byte, 9*73), page.Bad}, {make([]byte, 8*73), page.Whole}} {
		if got := page.State(x.raw); got != x.want {
			t.Errorf("%d bytes: %d, not %d", len(x.raw), got, x.want)
		}
		if d, n, got := page.Read(x.raw, 64); got != x.want || got != page.Whole && (len(d) > 0 || n != 0) {
			t.Errorf("%d bytes: read tells %d", len(x.raw), got)
		}
	}
	if _, _, s := page.Read(blank, -1); s != page.Blank {
		t.Error("a blank page is blank, whatever is asked of it")
	}
}

func TestRead(t *testing.T) { // P502, P503
	d := data(128)
	raw, _ := page.Lay(d, 2)
	for _, n := range []int{0, 1, 64, 100, 128} {
		if got, m, s := page.Read(raw, n); s != page.Whole || m != 0 || !bytes.Equal(got, d[:n]) {
			t.Errorf("%d bytes: %d", n, s)
		}
	}
	for _, n := range []int{-1, 129, 1 << 40} {
		if got, m, s := page.Read(raw, n); s != page.Bad || m != 0 || len(got) != 0 {
			t.Errorf("%d bytes: %d", n, s)
		}
	}
	for seed := range 72 { // one bit of each word with its check, and of each mark
		x := bytes.Clone(raw)
		for c := range 2 {
			for w := range 8 {
				bit := (seed + 5*w) % 72
				if bit < 64 {
					x[c*73+w*8+bit/8] ^= 1 << (bit % 8)
				} else {
					x[c*73+64+w] ^= 1 << (bit - 64)
				}
			}
			x[c*73+72] ^= 1 << (seed % 8)
		}
		keep := bytes.Clone(x)
		if got, m, s := page.Read(x, 128); s != page.Whole || m != 16 || !bytes.Equal(got, d) {
			t.Errorf("seed %d: %d, %d words", seed, s, m)
		}
		if !bytes.Equal(x, keep) {
			t.Error("what was handed in is changed")
		}
	}
	x := bytes.Clone(raw)
	x[80] ^= 3
	if got, m, s := page.Read(x, 10); s != page.Bad || m != 0 || len(got) != 0 {
		t.Error("two bits of a word")
	}
}

func TestCut(t *testing.T) { // P503
	for _, d := range [][]byte{make([]byte, 256), bytes.Repeat([]byte{0xFF}, 256), data(256)} {
		raw, _ := page.Lay(d, 4)
		for n := 1; n <= 4; n++ {
			f, _ := nand.New(1, 2, 4)
			f.Arm(n)
			f.Program(0, 0, raw)
			f.On()
			got, _ := f.Read(0, 0)
			if s := page.State(got); s != page.Torn && s != page.Blank {
				t.Errorf("cut at %d: %d", n, s)
			}
		}
	}
}
