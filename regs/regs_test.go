package regs_test

import (
	"bytes"
	"testing"

	"locket/api"
	"locket/regs"
)

func is(t *testing.T, what string, got, want api.Errno) {
	t.Helper()
	if got != want {
		t.Errorf("%s: %v, not %v", what, got, want)
	}
}

func kinds() map[int]int {
	return map[int]int{0: 1, 1: 1, 5: 1, 2: 2, 3: 2, 4: 2, 6: 3, 8: 3, 9: 3, 10: 3, 11: 3, 12: 3, 13: 3, 32: 4, 33: 4, 34: 4}
}

func TestKind(t *testing.T) { // P1501
	f := regs.New()
	for n := -300; n < 300; n++ {
		if regs.Kind(n) != kinds()[n] || f.Get(n) != 0 || f.Set(n) {
			t.Errorf("register %d", n)
		}
		f.Show(n, 7)
		if want := kinds()[n] == 4; (f.Get(n) == 7) != want {
			t.Errorf("show %d", n)
		}
	}
	if b := f.Bytes(); b[32] != 7 || b[0] != 0 || b[35] != 0 {
		t.Error("bytes")
	}
}

func TestNext(t *testing.T) { // P1502
	f := regs.New()
	f.Write(api.REnh, 0x50)
	for _, x := range []struct {
		arg   uint32
		n     int
		value byte
		e     api.Errno
	}{
		{3<<24 | 12<<16 | 0x81<<8 | 0xFF, 12, 0x81, api.OK},
		{0xFD<<24 | 12<<16 | 0x81<<8, 12, 0xD1, api.OK},
		{2<<24 | 12<<16 | 0x11<<8, 12, 0x40, api.OK},
		{12<<16 | 1<<8, 0, 0, api.ErrArg},
		{99 << 16, 0, 0, api.ErrArg},
		{3<<24 | 99<<16, 0, 0, api.ErrNone}, {3<<24 | 32<<16, 0, 0, api.ErrNone}, {1<<24 | 7<<16, 0, 0, api.ErrNone}, {2<<24 | 255<<16, 0, 0, api.ErrNone},
		{3<<24 | 2<<16 | 9<<8, 2, 9, api.OK},
	} {
		if n, v, e := f.Next(x.arg); n != x.n || v != x.value || e != x.e {
			t.Errorf("%x: %d %x %v", x.arg, n, v, e)
		}
	}
	if f.Get(12) != 0x50 {
		t.Error("Next writes nothing")
	}
}

func TestWrite(t *testing.T) { // P1502
	for n, most := range map[int]int{0: 7, 1: 1, 2: 1, 3: 1, 4: 1, 5: 2, 6: 3, 13: 1, 8: 255, 11: 255} {
		for v := range 256 {
			f := regs.New()
			want := api.OK
			if v > most {
				want = api.ErrArg
			}
			is(t, "write", f.Write(n, byte(v)), want)
			told := byte(0)
			if want == api.OK && regs.Kind(n) != 2 {
				told = byte(v)
			}
			if f.Get(n) != told || f.Set(n) != (regs.Kind(n) == 3 && told != 0) {
				t.Errorf("register %d, %d: %d", n, v, f.Get(n))
			}
		}
	}
	f := regs.New()
	for v := range 256 {
		want := api.OK
		if v&0x0E != 0 {
			want = api.ErrArg
		}
		is(t, "REnh", f.Write(api.REnh, byte(v)), want)
	}
	for _, n := range []int{-1, 7, 14, 32, 33, 34, 63, 64, 1 << 40} {
		is(t, "none", f.Write(n, 255), api.ErrNone)
	}
}

func TestFilesApart(t *testing.T) { // P1502, P7: a write is of its own file alone
	f, g := regs.New(), regs.New()
	for n := range 64 { // rising: RDone is behind what it closes
		f.Write(n, 1)
	}
	if g.Bytes() != (regs.Bytes{}) || f.Bytes() == g.Bytes() {
		t.Error("a write was heard of by another file")
	}
	for n := range 64 {
		if k := kinds()[n]; (f.Get(n) == 1) != (k == 1 || k == 3) {
			t.Errorf("register %d: %d", n, f.Get(n))
		}
		g.Write(n, 1)
	}
	if f.Bytes() != g.Bytes() {
		t.Error("the same writes, other registers")
	}
}

func TestOnce(t *testing.T) { // P1502, P1503
	f := regs.New()
	is(t, "boot 0", f.Write(api.RBoot, 1), api.OK)
	is(t, "back", f.Write(api.RBoot, 2), api.ErrSet)
	is(t, "back", f.Write(api.RBoot, 0), api.ErrSet)
	is(t, "too great", f.Write(api.RBoot, 4), api.ErrArg)
	is(t, "boot 1", f.Write(api.RBoot, 3), api.OK)
	is(t, "gen", f.Write(api.RGen, 5), api.OK)
	is(t, "gen again", f.Write(api.RGen, 0), api.OK)
	is(t, "gen again", f.Write(api.RGen+3, 6), api.OK)
	is(t, "not done", f.Write(api.RDone, 0), api.OK)
	is(t, "done", f.Write(api.RDone, 1), api.OK)
	is(t, "done", f.Write(api.RDone, 1), api.OK)
	is(t, "undone", f.Write(api.RDone, 0), api.ErrSet)
	is(t, "gen", f.Write(api.RGen+3, 6), api.ErrSet)
	is(t, "enh", f.Write(api.REnh, 0), api.ErrSet)
	is(t, "enh", f.Write(api.REnh, 2), api.ErrArg)
	f.Write(api.RArea, 3)
	f.Write(api.RCache, 1)
	f.Write(api.RGuard, 2)
	f.Show(api.RLife, 9)
	f.PowerUp()
	want := regs.Bytes{}
	want[6], want[11], want[13], want[32] = 3, 6, 1, 9
	if f.Bytes() != want {
		t.Error(f.Bytes())
	}
	if !bytes.Equal(f.Lasting(), []byte{3, 0, 0, 0, 6, 0, 1}) {
		t.Error(f.Lasting())
	}
}

func TestLoad(t *testing.T) { // P1503
	b := []byte{2, 1, 2, 3, 255, 0xF1, 1}
	f, e := regs.Load(b)
	if e != api.OK || !bytes.Equal(f.Lasting(), b) || f.Get(api.RDone) != 1 || f.Get(api.REnh) != 0xF1 {
		t.Error(e)
	}
	for _, x := range [][]byte{nil, b[:6], append(bytes.Clone(b), 0), {4, 0, 0, 0, 0, 0, 0}, {0, 0, 0, 0, 0, 2, 0}, {0, 0, 0, 0, 0, 0, 2}} {
		if f, e := regs.Load(x); f != nil || e != api.ErrForm {
			t.Errorf("%v: %v", x, e)
		}
	}
}
