package frame_test

import (
	"bytes"
	"math"
	"testing"

	"locket/api"
	"locket/crc"
	"locket/frame"
)

func TestEncode(t *testing.T) { // P1701
	if b, e := frame.Encode(frame.Command{}); b != [6]byte{0x40, 0, 0, 0, 0, 0x95} || e != api.OK {
		t.Errorf("%x", b)
	}
	for _, n := range []int{-1, 64, math.MaxInt, math.MinInt} {
		if b, e := frame.Encode(frame.Command{Index: n}); b != [6]byte{} || e != api.ErrArg {
			t.Errorf("index %d: %v", n, e)
		}
	}
	for n := range 64 {
		c := frame.Command{Index: n, Argument: 0x01020304 * uint32(n+1)}
		b, e := frame.Encode(c)
		if e != api.OK || b[0] != 0x40|byte(n) || b[1] != byte(c.Argument>>24) || b[5] != crc.Seven(b[:5])<<1|1 {
			t.Errorf("%x", b)
		}
		if d, e := frame.Decode(b[:]); d != c || e != api.OK {
			t.Error(d, e)
		}
		r := frame.Response(n-64, c.Argument)
		if i, s, e := frame.Read(r[:]); i != n || s != c.Argument || e != api.OK || r[0] != byte(n) || r[5]&1 != 1 {
			t.Errorf("%x: %v", r, e)
		}
	}
}

func TestWrong(t *testing.T) { // P1701, P1702
	h, _ := frame.Encode(frame.Command{Index: 17, Argument: 99})
	r := frame.Response(17, 99)
	for _, x := range []struct {
		b    []byte
		read func(b []byte) api.Errno
	}{{h[:], decode}, {r[:], read}} {
		for n := range 6 {
			if e := x.read(x.b[:n]); e != api.ErrShort {
				t.Errorf("%d bytes: %v", n, e)
			}
		}
		if e := x.read(append(bytes.Clone(x.b), 0)); e != api.ErrForm {
			t.Error(e)
		}
		for bit := range 48 {
			y := bytes.Clone(x.b)
			y[bit/8] ^= 0x80 >> (bit % 8)
			want := api.ErrSum
			if bit < 2 || bit == 47 {
				want = api.ErrForm
			}
			if e := x.read(y); e != want {
				t.Errorf("bit %d: %v", bit, e)
			}
		}
	}
	if decode(r[:]) != api.ErrForm || read(h[:]) != api.ErrForm {
		t.Error("each other's")
	}
}

func decode(b []byte) api.Errno {
	c, e := frame.Decode(b)
	if e != api.OK && c != (frame.Command{}) {
		return -1
	}
	return e
}

func read(b []byte) api.Errno {
	i, s, e := frame.Read(b)
	if e != api.OK && (i != 0 || s != 0) {
		return -1
	}
	return e
}

func TestLong(t *testing.T) { // P1701, P1702
	if b := frame.Ready(0x80FF8080); b != [6]byte{0x3F, 0x80, 0xFF, 0x80, 0x80, 0xFF} {
		t.Errorf("%x", b)
	}
	long := []byte("sixteen bytes ahead")
	b := frame.Long(long)
	want := append([]byte{0x3F}, long[:16]...)
	want[16] |= 1
	if !bytes.Equal(b[:], want) {
		t.Errorf("%x", b)
	}
	if b := frame.Long([]byte{7}); b != [17]byte{0x3F, 7, 16: 1} {
		t.Errorf("%x", b)
	}
	got, e := frame.ReadLong(b[:])
	want[16] &^= 1
	if e != api.OK || !bytes.Equal(got, want[1:]) {
		t.Errorf("%x %v", got, e)
	}
	even := bytes.Clone(b[:])
	even[16] &^= 1
	host := bytes.Clone(b[:])
	host[0] = 0x7F
	for _, x := range [][]byte{even, host, append(bytes.Clone(b[:]), 1)} {
		if got, e := frame.ReadLong(x); len(got) > 0 || e != api.ErrForm {
			t.Error(e)
		}
	}
	if _, e := frame.ReadLong(b[:16]); e != api.ErrShort {
		t.Error(e)
	}
}

func TestFind(t *testing.T) { // P1702
	for want, b := range map[int][]byte{0: {0x40}, 2: {0, 0xFF, 0x7F, 0x40}, 3: {0x80, 0x3F, 0xC0}} {
		if got := frame.Find(b); got != want {
			t.Errorf("%x: %d", b, got)
		}
	}
	if frame.Find(nil) != 0 {
		t.Error("of nothing")
	}
}
