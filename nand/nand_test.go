package nand_test

import (
	"bytes"
	"math"
	"testing"

	"locket/api"
	"locket/nand"
)

func flash(t *testing.T, blocks, pages, chunks int) *nand.Flash {
	t.Helper()
	f, e := nand.New(blocks, pages, chunks)
	if e != api.OK {
		t.Fatal(e)
	}
	return f
}

func raw(chunks int, seed byte) []byte {
	b := make([]byte, chunks*api.Raw)
	for i := range b {
		b[i] = byte(i)*7 + seed
	}
	return b
}

func is(t *testing.T, what string, got, want api.Errno) {
	t.Helper()
	if got != want {
		t.Errorf("%s: %v, not %v", what, got, want)
	}
}

func TestNew(t *testing.T) { // P401
	for _, s := range [][3]int{{0, 4, 2}, {-1, 4, 2}, {1025, 4, 2}, {2, 0, 2}, {2, 3, 2}, {2, 258, 2}, {2, 4, 0}, {2, 4, 9}} {
		if f, e := nand.New(s[0], s[1], s[2]); f != nil || e != api.ErrArg {
			t.Errorf("%v: %v", s, e)
		}
	}
	for _, s := range [][3]int{{1, 2, 1}, {1024, 256, 8}} {
		f := flash(t, s[0], s[1], s[2])
		if b, p, c := f.Shape(); b != s[0] || p != s[1] || c != s[2] {
			t.Errorf("shape %d %d %d", b, p, c)
		}
		last := s[0] - 1
		if f.One(last) || f.Next(last) != 0 || f.Failed(last) || f.Off() {
			t.Error("a new block")
		}
		if b, e := f.Read(last, s[1]-1); e != api.OK || !bytes.Equal(b, bytes.Repeat([]byte{0xFF}, s[2]*api.Raw)) {
			t.Error("not all FF")
		}
	}
	f := flash(t, 2, 4, 1)
	if f.Next(-1) != -1 || f.Next(2) != -1 || f.One(2) || f.Failed(-1) || f.Fail(2) || f.Fail(-1) {
		t.Error("no such block")
	}
}

func TestProgram(t *testing.T) { // P402
	f := flash(t, 3, 4, 2)
	a := raw(2, 1)
	is(t, "page 1 first", f.Program(0, 1, a), api.ErrOrder)
	is(t, "page 0", f.Program(0, 0, a), api.OK)
	keep := bytes.Clone(a)
	a[0] ^= 1
	if b, _ := f.Read(0, 0); !bytes.Equal(b, keep) {
		t.Error("what was handed in is kept")
	} else {
		b[3] ^= 1
		if c, _ := f.Read(0, 0); !bytes.Equal(c, keep) {
			t.Error("what was answered is shared")
		}
	}
	is(t, "page 0 again", f.Program(0, 0, a), api.ErrOrder)
	is(t, "no block", f.Program(3, 0, a), api.ErrArg)
	is(t, "no page", f.Program(0, 4, a), api.ErrArg)
	is(t, "below 0", f.Program(0, -1, a), api.ErrArg)
	is(t, "short", f.Program(0, 1, a[1:]), api.ErrArg)
	for p := 1; p < 4; p++ {
		is(t, "next", f.Program(0, p, raw(2, byte(p))), api.OK)
	}
	if f.Next(0) != 4 {
		t.Error("full")
	}
	is(t, "read block 3", second(f.Read(3, 0)), api.ErrArg)
	is(t, "read page 4", second(f.Read(0, 4)), api.ErrArg)
	f.Fail(1)
	is(t, "failed", f.Program(1, 2, a), api.ErrFail)
	is(t, "failed and short", f.Program(1, 0, nil), api.ErrArg)
	if s, p, r, e := f.Count(); s != 8 || p != 4 || r != 2 || e != 0 {
		t.Errorf("count %d %d %d %d", s, p, r, e)
	}
}

func second(_ []byte, e api.Errno) api.Errno { return e }

func TestMode(t *testing.T) { // P401, P402
	f := flash(t, 2, 4, 1)
	is(t, "no block", f.Mode(2, true), api.ErrArg)
	is(t, "one", f.Mode(0, true), api.OK)
	if !f.One(0) || f.One(1) {
		t.Error("One")
	}
	is(t, "page 2 of one-bit", f.Program(0, 2, raw(1, 0)), api.ErrArg)
	is(t, "read page 2 of one-bit", second(f.Read(0, 2)), api.ErrArg)
	is(t, "page 0", f.Program(0, 0, raw(1, 0)), api.OK)
	is(t, "page 1", f.Program(0, 1, raw(1, 0)), api.OK)
	is(t, "not erased", f.Mode(0, false), api.ErrOrder)
	is(t, "erase", f.Erase(0), api.OK)
	if !f.One(0) {
		t.Error("an erase changed the mode")
	}
	is(t, "two", f.Mode(0, false), api.OK)
	f.Fail(0)
	is(t, "failed", f.Mode(0, true), api.ErrFail)
	f.Cut()
	is(t, "down", f.Mode(7, true), api.ErrDown)
	if s, _, _, _ := f.Count(); s != 4 {
		t.Errorf("%d steps: a mode is none", s)
	}
}

func TestErase(t *testing.T) { // P402
	f := flash(t, 2, 4, 1)
	f.Program(0, 0, raw(1, 0))
	is(t, "no block", f.Erase(2), api.ErrArg)
	f.Arm(1)
	is(t, "first half", f.Erase(0), api.ErrDown)
	f.On()
	if f.Next(0) != 1 {
		t.Error("nothing was done")
	}
	f.Arm(2)
	is(t, "second half", f.Erase(0), api.ErrDown)
	is(t, "off", f.Erase(9), api.ErrDown)
	f.On()
	if f.Next(0) != -1 || f.Flip(0, 0, 0) {
		t.Error("half erased")
	}
	is(t, "read half", second(f.Read(0, 0)), api.ErrBad)
	is(t, "program half", f.Program(0, 0, raw(1, 0)), api.ErrOrder)
	is(t, "mode half", f.Mode(0, true), api.ErrOrder)
	is(t, "erase half", f.Erase(0), api.OK)
	if b, e := f.Read(0, 0); f.Next(0) != 0 || e != api.OK || b[0] != 0xFF {
		t.Error("erased")
	}
	f.Fail(1)
	is(t, "failed", f.Erase(1), api.ErrFail)
	if _, _, _, e := f.Count(); e != 1 {
		t.Errorf("%d erases", e)
	}
}

func TestCut(t *testing.T) { // P404
	f := flash(t, 2, 4, 2)
	f.Arm(2)
	is(t, "cut", f.Program(0, 0, raw(2, 0)), api.ErrDown)
	if !f.Off() || f.Next(0) != 1 {
		t.Error("off")
	}
	is(t, "read off", second(f.Read(0, 0)), api.ErrDown)
	f.On()
	b, e := f.Read(0, 0)
	if e != api.OK || !bytes.Equal(b[:73], raw(2, 0)[:73]) || !bytes.Equal(b[73:], bytes.Repeat([]byte{0xFF}, 73)) {
		t.Error("the first chunk stands, the second is FF")
	}
	f.Arm(0)
	is(t, "below 1", f.Program(0, 1, raw(2, 0)), api.ErrDown)
	f.On()
	if f.Next(0) != 1 {
		t.Error("no chunk was written")
	}
	f.Arm(1)
	f.Arm(4)
	is(t, "armed anew", f.Program(0, 1, raw(2, 0)), api.OK)
	f.Cut()
	f.On()
	is(t, "disarmed by a cut", f.Program(0, 2, raw(2, 0)), api.OK)
	f.Cut()
	f.Arm(3)
	f.On()
	is(t, "armed while off", f.Program(0, 3, raw(2, 0)), api.OK)
	is(t, "armed while off", f.Program(1, 0, raw(2, 0)), api.ErrDown)
	if s, p, _, _ := f.Count(); s != 7 || p != 3 {
		t.Errorf("%d steps, %d programs", s, p)
	}
}

func TestArmAtTheEdges(t *testing.T) { // P404
	for _, n := range []int{1, 0, -1, -2, math.MinInt + 1, math.MinInt} {
		f := flash(t, 2, 4, 2)
		f.Arm(n)
		is(t, "program", f.Program(0, 0, raw(2, 0)), api.ErrDown)
		if s, p, _, _ := f.Count(); !f.Off() || f.Next(0) != 0 || s != 0 || p != 0 {
			t.Errorf("Arm(%d): off %v, next %d, %d steps, %d programs", n, f.Off(), f.Next(0), s, p)
		}
		f.On()
		is(t, "program once more", f.Program(0, 0, raw(2, 0)), api.OK)
		f.Arm(n)
		is(t, "erase", f.Erase(0), api.ErrDown)
		if !f.Off() || f.Next(0) != 1 {
			t.Errorf("Arm(%d): off %v, next %d behind an erase", n, f.Off(), f.Next(0))
		}
	}
	for _, n := range []int{3, math.MaxInt} {
		f := flash(t, 2, 4, 2)
		f.Arm(n)
		is(t, "ahead of it", f.Program(0, 0, raw(2, 0)), api.OK)
		if f.Off() {
			t.Errorf("Arm(%d): the power went too early", n)
		}
	}
}

func TestFlip(t *testing.T) { // P403
	f := flash(t, 2, 4, 2)
	f.Program(0, 0, raw(2, 0))
	for _, x := range [][3]int{{2, 0, 0}, {-1, 0, 0}, {0, 4, 0}, {0, -1, 0}, {0, 1, 0}, {0, 0, -1}, {0, 0, 8 * 146}} {
		if f.Flip(x[0], x[1], x[2]) {
			t.Errorf("%v was turned", x)
		}
	}
	f.Cut()
	if !f.Flip(0, 0, 0) || !f.Flip(0, 0, 8*146-1) {
		t.Error("not turned")
	}
	f.On()
	want := raw(2, 0)
	want[0] ^= 1
	want[145] ^= 0x80
	if b, _ := f.Read(0, 0); !bytes.Equal(b, want) {
		t.Error("other bits are turned")
	}
	f.Arm(2)
	f.Program(0, 1, raw(2, 0))
	if !f.Flip(0, 1, 1000) {
		t.Error("a bit of a chunk that was not written, of a page that was")
	}
	f.On()
	f.Fail(0)
	if !f.Failed(0) || !f.Flip(0, 0, 5) || f.Failed(1) {
		t.Error("a failed block")
	}
	is(t, "reads are not refused", second(f.Read(0, 0)), api.OK)
}
