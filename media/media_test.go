package media_test

import (
	"bytes"
	"slices"
	"testing"

	"locket/api"
	"locket/media"
	"locket/nand"
)

func make2(t *testing.T, bad ...int) (*media.Media, *nand.Flash) {
	t.Helper()
	f, _ := nand.New(4, 4, 2)
	m, e := media.New(f, 100, bad...)
	if e != api.OK || m.Flash() != f {
		t.Fatal(e)
	}
	return m, f
}

func data(seed byte) []byte {
	b := make([]byte, 100)
	for i := range b {
		b[i] = seed + byte(i)*3
	}
	return b
}

func is(t *testing.T, what string, got, want api.Errno) {
	t.Helper()
	if got != want {
		t.Errorf("%s: %v, not %v", what, got, want)
	}
}

func write(t *testing.T, m *media.Media, block int, b []byte, page int, want api.Errno) {
	t.Helper()
	if p, e := m.Write(block, b); e != want || p != page {
		t.Errorf("write to %d: page %d, %v; not %d, %v", block, p, e, page, want)
	}
}

func reads(t *testing.T, m *media.Media, block, page int, b []byte, want api.Errno) {
	t.Helper()
	if got, e := m.Read(block, page); e != want || !bytes.Equal(got, b) {
		t.Errorf("read %d, %d: %v, not %v", block, page, e, want)
	}
}

func scans(t *testing.T, m *media.Media, block, n int, whole bool, want api.Errno) {
	t.Helper()
	if k, w, e := m.Scan(block); k != n || w != whole || e != want {
		t.Errorf("scan %d: %d %v %v", block, k, w, e)
	}
}

func TestNew(t *testing.T) { // P601
	f, _ := nand.New(4, 4, 2)
	for _, n := range []int{0, -1, 129} {
		if m, e := media.New(f, n); m != nil || e != api.ErrArg {
			t.Errorf("%d bytes: %v", n, e)
		}
	}
	for _, b := range []int{-1, 4} {
		if m, e := media.New(f, 128, 0, b); m != nil || e != api.ErrArg {
			t.Errorf("bad %d: %v", b, e)
		}
	}
	m, _ := make2(t, 3, 1, 3)
	if !slices.Equal(m.Bad(), []int{1, 3}) {
		t.Error(m.Bad())
	}
	for b, want := range map[int]int{-1: 0, 0: 4, 1: 0, 2: 4, 3: 0, 4: 0} {
		if m.Room(b) != want {
			t.Errorf("room of %d: %d", b, m.Room(b))
		}
	}
}

func TestWide(t *testing.T) { // P601: a media knows how many bytes its pages have, and nothing is written to tell it
	m, f := make2(t)
	for n := -1; n < 200; n++ {
		if m.Wide(n) != (n == 100) {
			t.Errorf("pages of %d bytes: %v", n, m.Wide(n))
		}
	}
	if s, p, r, e := f.Count(); s+p+r+e != 0 {
		t.Error("the flash was asked")
	}
}

func TestWrite(t *testing.T) { // P602
	m, f := make2(t, 1)
	write(t, m, 4, data(0), 0, api.ErrArg)
	write(t, m, 0, data(0)[1:], 0, api.ErrArg)
	write(t, m, 1, data(0), 0, api.ErrFail)
	for p := range 4 {
		write(t, m, 0, data(byte(p)), p, api.OK)
		scans(t, m, 0, p+1, true, api.OK)
	}
	if m.Room(0) != 0 {
		t.Error("room of a full block")
	}
	f.Cut()
	write(t, m, 0, data(9), 0, api.ErrFull)
	write(t, m, 2, data(9), 0, api.ErrDown)
	reads(t, m, 0, 0, nil, api.ErrDown)
	reads(t, m, 0, 4, nil, api.ErrArg)
	scans(t, m, 0, 0, false, api.ErrDown)
	scans(t, m, -1, 0, false, api.ErrArg)
	is(t, "erase off", m.Erase(0, false), api.ErrDown)
	is(t, "erase none", m.Erase(4, false), api.ErrArg)
	is(t, "erase bad", m.Erase(1, false), api.ErrFail)
	f.On()
	for p := range 4 {
		reads(t, m, 0, p, data(byte(p)), api.OK)
	}
	reads(t, m, 4, 0, nil, api.ErrArg)
	reads(t, m, 0, -1, nil, api.ErrArg)
	reads(t, m, 2, 0, nil, api.ErrBlank)
	is(t, "erase", m.Erase(0, true), api.OK)
	if m.Room(0) != 2 || !f.One(0) {
		t.Error("one-bit mode")
	}
	reads(t, m, 0, 2, nil, api.ErrArg)
}

func TestFail(t *testing.T) { // P602
	m, f := make2(t)
	write(t, m, 0, data(1), 0, api.OK)
	f.Fail(0)
	f.Fail(2)
	if len(m.Bad()) != 0 {
		t.Error("nobody has told it yet")
	}
	write(t, m, 0, data(2), 0, api.ErrFail)
	is(t, "erase", m.Erase(2, true), api.ErrFail)
	if !slices.Equal(m.Bad(), []int{0, 2}) || m.Room(0) != 0 {
		t.Error(m.Bad())
	}
	reads(t, m, 0, 0, data(1), api.OK)
	scans(t, m, 0, 1, true, api.OK)
}

func TestCut(t *testing.T) { // P602
	m, f := make2(t)
	write(t, m, 0, data(1), 0, api.OK)
	f.Arm(2)
	write(t, m, 0, data(2), 0, api.ErrDown)
	f.On()
	scans(t, m, 0, 2, false, api.OK)
	reads(t, m, 0, 1, nil, api.ErrBlank)
	write(t, m, 0, data(3), 2, api.OK)
	scans(t, m, 0, 3, true, api.OK)
	f.Arm(2)
	is(t, "erase", m.Erase(0, false), api.ErrDown)
	f.On()
	scans(t, m, 0, 0, false, api.OK)
	reads(t, m, 0, 0, nil, api.ErrBlank)
	write(t, m, 0, data(4), 0, api.ErrFull)
	is(t, "erase", m.Erase(0, false), api.OK)
	scans(t, m, 0, 0, true, api.OK)
	if len(m.Bad()) != 0 {
		t.Error("a cut makes no bad block")
	}
}

func TestMended(t *testing.T) { // P602, P603
	m, f := make2(t)
	write(t, m, 0, data(7), 0, api.OK)
	f.Flip(0, 0, 5)
	f.Flip(0, 0, 64)
	f.Flip(0, 0, 73*8+64*8+3)
	f.Flip(0, 0, 72*8)
	reads(t, m, 0, 0, data(7), api.OK)
	if m.Mended() != 3 {
		t.Errorf("%d words", m.Mended())
	}
	f.Flip(0, 0, 6)
	reads(t, m, 0, 0, nil, api.ErrBad)
	if m.Mended() != 3 {
		t.Errorf("%d words", m.Mended())
	}
}
