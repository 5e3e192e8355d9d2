package model_test

import (
	"bytes"
	"testing"

	"locket/api"
	"locket/frame"
	"locket/model"
	"locket/rpa"
	"locket/token"
)

func shape() api.Config {
	return api.Config{Blocks: 120, Pages: 16, Sector: 128, User: 64, Boot: 4, Rpa: 4, Group: 8, Cache: 3, Spare: 4}
}

// rig is a card that is played.
type rig struct {
	t *testing.T
	m *model.Abstract
}

func rigged(t *testing.T) *rig {
	t.Helper()
	m, e := model.New(shape())
	if e != api.OK {
		t.Fatal(e)
	}
	r := &rig{t, m}
	r.up()
	return r
}

// up brings the card to STran, with address 5.
func (r *rig) up() {
	r.do(api.GoIdle, 0)
	r.do(api.OpCond, 0)
	r.do(api.AllCid, 0)
	r.do(api.SetAddr, 5<<16)
	r.do(api.Select, 5<<16)
}

func (r *rig) do(index int, argument uint32) api.Answer {
	return r.m.Command(frame.Command{Index: index, Argument: argument}, true)
}

const usual = api.STran<<9 | api.BReady

// tells does a command, and looks at its status.
func (r *rig) tells(what string, index int, argument, want uint32) [][]byte {
	r.t.Helper()
	a := r.do(index, argument)
	if a.None || len(a.Long) > 0 || a.Status != want {
		r.t.Errorf("%s: %+v, not %x", what, a, want)
	}
	return a.Blocks
}

// set writes a register.
func (r *rig) set(n, v int, want uint32) {
	r.t.Helper()
	r.tells("switch", api.Switch, uint32(3<<24|n<<16|v<<8), usual|want)
}

func row(x byte) []byte { return bytes.Repeat([]byte{x}, 128) }

func (r *rig) data(what string, b []byte, want byte) {
	r.t.Helper()
	if got := r.m.Data(b, true); got != want {
		r.t.Errorf("%s: %x, not %x", what, got, want)
	}
}

// write writes one sector.
func (r *rig) write(sector int, x byte, want byte) {
	r.t.Helper()
	r.tells("write", api.WriteOne, uint32(sector), api.SRecv<<9|api.BReady)
	r.data("write", row(x), want)
}

// reads looks at sectors.
func (r *rig) reads(what string, sector int, want ...byte) {
	r.t.Helper()
	r.tells("count", api.SetCount, uint32(len(want)), usual)
	l := r.tells(what, api.ReadMany, uint32(sector), usual)
	if len(l) != len(want) {
		r.t.Fatalf("%s: %d blocks", what, len(l))
	}
	for i, x := range want {
		if !bytes.Equal(l[i], row(x)) {
			r.t.Errorf("%s: sector %d is %x, not %x", what, sector+i, l[i][0], x)
		}
	}
}

func TestNew(t *testing.T) { // P2001
	wrong := shape()
	wrong.Rpa = 0
	if m, e := model.New(wrong); m != nil || e != api.ErrArg {
		t.Error(e)
	}
	m, _ := model.New(shape())
	if m.Sectors() != 76 || m.State() != api.SIdle || len(m.Sector(-1)) > 0 || len(m.Sector(76)) > 0 || m.Loose(-1) || m.Loose(76) {
		t.Error("a new card")
	}
	for p := range 76 {
		if !bytes.Equal(m.Sector(p), row(0)) || m.Loose(p) {
			t.Error("all sectors 0")
		}
	}
	if !bytes.Equal(model.Cid(), append([]byte("LOCKET"), make([]byte, 10)...)) {
		t.Error("Cid")
	}
	c := api.Config{Sector: 0x0102, User: 0x03040506, Boot: 0x0708, Rpa: 0x090A, Group: 0x0B0C}
	if !bytes.Equal(model.Csd(c), []byte{1, 2, 3, 4, 5, 6, 7, 8, 9, 10, 11, 12, 0, 0, 0, 0}) {
		t.Errorf("%x", model.Csd(c))
	}
}

func TestStatus(t *testing.T) { // P2002
	m, _ := model.New(shape())
	r := &rig{t, m}
	none := func(what string, a api.Answer) {
		t.Helper()
		if !a.None || a.Status != 0 || len(a.Long)+len(a.Blocks) > 0 {
			t.Errorf("%s: %+v", what, a)
		}
	}
	none("GoIdle", r.do(api.GoIdle, 0))
	none("illegal", r.do(api.ReadOne, 0))
	none("wrong sum", m.Command(frame.Command{Index: api.OpCond}, false))
	none("no command", r.do(77, 0))
	r.tells("OpCond", api.OpCond, 0, 0x80FF8080)
	if a := r.do(api.AllCid, 0); a.None || a.Status != 0 || !bytes.Equal(a.Long, model.Cid()) {
		t.Error("AllCid")
	}
	r.tells("SetAddr", api.SetAddr, 5<<16, api.SStand<<9|api.BReady|api.BCrc|api.BIllegal)
	if a := r.do(api.SendCsd, 5<<16); a.None || a.Status != 0 || !bytes.Equal(a.Long, model.Csd(shape())) {
		t.Error("SendCsd")
	}
	none("not mine", r.do(api.Select, 6<<16))
	r.tells("Select", api.Select, 5<<16, usual)
	none("mine", r.do(api.Select, 5<<16))
	r.tells("told once", api.Status, 5<<16, usual|api.BIllegal)
	r.tells("told once", api.Status, 5<<16, usual)
	none("another's status", r.do(api.Status, 0))
	none("away", r.do(api.Select, 0))
	if m.State() != api.SStand {
		t.Error("away")
	}
}

func TestReadWrite(t *testing.T) { // P2002, P2003
	r := rigged(t)
	r.write(3, 7, token.Good)
	r.reads("written", 2, 0, 7, 0)
	if !bytes.Equal(r.m.Sector(3), row(7)) {
		t.Error("Sector")
	}
	r.tells("count", api.SetCount, 4, usual)
	r.tells("many", api.WriteMany, 60, api.SRecv<<9|api.BReady)
	for i := range 4 {
		r.tells("waiting", api.Status, 5<<16, api.SRecv<<9|api.BReady)
		r.data("many", row(byte(i+1)), token.Good)
	}
	r.data("one more", row(9), token.Fail)
	r.reads("many", 60, 1, 2, 3, 4)
	for _, x := range []struct{ n, from uint32 }{{5, 60}, {1, 64}, {64, 1}, {1, 0xFFFFFFFF}} {
		r.tells("count", api.SetCount, x.n, usual)
		if l := r.tells("beyond", api.ReadMany, x.from, usual|api.BRange); len(l) > 0 {
			t.Error("no block")
		}
		r.tells("count", api.SetCount, x.n, usual)
		r.tells("beyond", api.WriteMany, x.from, usual|api.BRange)
	}
	if l := r.tells("without count", api.ReadMany, 60, usual); len(l) != 1 {
		t.Error("one block")
	}
	r.tells("count", api.SetCount, 2, usual)
	if l := r.tells("one", api.ReadOne, 60, usual); len(l) != 1 {
		t.Error("ReadOne reads one")
	}
	if l := r.tells("count is gone", api.ReadMany, 60, usual); len(l) != 1 {
		t.Error("it held for the next command")
	}
	for _, n := range []uint32{0, 65, 0x10000} {
		r.tells("count", api.SetCount, 2, usual)
		r.tells("count", api.SetCount, n, usual|api.BRange)
		if l := r.tells("says nothing", api.ReadMany, 0, usual); len(l) != 1 {
			t.Error("it says nothing")
		}
	}
}

func TestWrongBlocks(t *testing.T) { // P2003
	r := rigged(t)
	r.data("not waited for", row(1), token.Fail)
	for _, b := range [][]byte{nil, row(1)[1:], append(row(1), 1)} {
		r.tells("count", api.SetCount, 3, usual)
		r.tells("write", api.WriteMany, 0, api.SRecv<<9|api.BReady)
		r.data("length", b, token.Wrong)
		if r.m.State() != api.STran {
			t.Error("the command ends")
		}
	}
	r.tells("write", api.WriteOne, 0, api.SRecv<<9|api.BReady)
	if r.m.Data(row(1), false) != token.Wrong || r.m.State() != api.STran {
		t.Error("a wrong sum")
	}
	r.tells("count", api.SetCount, 3, usual)
	r.tells("write", api.WriteMany, 0, api.SRecv<<9|api.BReady)
	r.data("first", row(4), token.Good)
	r.tells("stop", api.Stop, 0, usual)
	r.reads("stopped", 0, 4, 0, 0)
}

func TestRegisters(t *testing.T) { // P2002, P2004
	r := rigged(t)
	for _, n := range []int{7, 32, 63, 200} {
		r.set(n, 0, api.BSwitch)
	}
	r.tells("no access", api.Switch, 1<<16|1<<8, usual|api.BSwitch)
	r.set(api.RArea, 4, api.BSwitch)
	r.set(api.RArea, 8, api.BSwitch)
	r.set(api.RArea, 1, 0)
	r.set(api.RCache, 2, api.BSwitch)
	r.set(api.RGen, 1, 0)
	r.set(api.RGen+1, 7, 0)
	r.set(api.RDone, 1, api.BSwitch)
	r.set(api.RGen+1, 2, 0)
	r.set(api.REnh, 0x10, 0)
	r.set(api.RDone, 1, 0)
	r.set(api.RDone, 1, 0)
	r.set(api.RGen, 1, api.BSwitch)
	b := r.tells("registers", api.SendRegs, 0, usual)[0]
	want := row(0)
	want[api.RArea], want[api.RGen], want[api.RGen+1], want[api.REnh], want[api.RDone] = 1, 1, 2, 0x10, 1
	if !bytes.Equal(b, want) {
		t.Errorf("%v", b)
	}
	r.set(api.RArea, 4, api.BSwitch)
	r.m.PowerUp(func(int) []byte { return nil })
	if r.m.State() != api.SIdle {
		t.Error("phase")
	}
	r.up()
	if g := r.m.Regs(); g[api.RPartOn] != 1 || g[api.RArea] != 0 || g[api.RLife] != 0 || g[api.RGen+1] != 2 {
		t.Error(g)
	}
	r.set(api.RArea, 5, 0)
	r.write(15, 3, token.Good)
	if !bytes.Equal(r.m.Sector(64-24+8+15), row(3)) {
		t.Error("the general area's last sector")
	}
	r.tells("beyond", api.ReadOne, 16, usual|api.BRange)
}

func TestCache(t *testing.T) { // P2002, P2003, P2005
	r := rigged(t)
	r.write(1, 1, token.Good)
	r.set(api.RCache, 1, 0)
	r.write(1, 2, token.Good)
	r.set(api.RBarrier, 1, 0)
	r.write(1, 3, token.Good)
	r.write(2, 4, token.Good)
	r.reads("cached", 1, 3, 4)
	if g := r.m.Cached(); len(g) != 2 || len(g[0]) != 1 || len(g[1]) != 2 || g[1][1].Sector != 2 || g[0][0].Data[0] != 2 {
		t.Errorf("%v", g)
	}
	r.write(4, 5, token.Good)
	r.m.PowerUp(func(int) []byte { return nil })
	r.up()
	r.reads("the eldest was written", 1, 2, 0, 0, 0)
	r.set(api.RCache, 1, 0)
	r.write(1, 6, token.Good)
	r.tells("reliable", api.SetCount, 1<<31|1, usual)
	r.tells("reliable", api.WriteMany, 1, api.SRecv<<9|api.BReady)
	r.data("reliable", row(7), token.Good)
	if len(r.m.Cached()) != 0 {
		t.Error("cached writes of it are gone")
	}
	r.write(1, 8, token.Good)
	r.set(api.RFlush, 1, 0)
	r.write(2, 9, token.Good)
	r.set(api.RCache, 0, 0)
	if len(r.m.Cached()) != 0 {
		t.Error("flushed")
	}
	r.m.PowerUp(func(p int) []byte {
		if p == 5 {
			return row(11)
		}
		return nil
	})
	r.up()
	r.reads("flushed", 1, 8, 9, 0, 0, 11)
}

// head is a packed write's.
func head(runs ...[2]int) []byte {
	b := row(0)
	b[0] = byte(len(runs))
	for i, x := range runs {
		b[8+8*i+2], b[8+8*i+3] = byte(x[0]>>8), byte(x[0])
		b[8+8*i+5] = byte(x[1])
	}
	return b
}

func TestPacked(t *testing.T) { // P2002, P2003
	r := rigged(t)
	packed := func(n int) {
		t.Helper()
		r.tells("count", api.SetCount, uint32(1<<30|n), usual)
		r.tells("packed", api.WriteMany, 0xFFFFFFFF, api.SRecv<<9|api.BReady)
	}
	packed(5)
	odd := head([2]int{62, 2}, [2]int{5, 1}, [2]int{5, 1})
	odd[1], odd[100] = 9, 9
	r.data("head", odd, token.Good)
	for i := range 4 {
		r.data("packed", row(byte(i+1)), token.Good)
	}
	r.reads("packed", 62, 1, 2)
	r.reads("packed", 5, 4)
	two := head([2]int{1, 2})
	two[15] = 1
	many := head([2]int{1, 2})
	many[0] = 16
	for i, b := range [][]byte{head(), head([2]int{1, 1}), head([2]int{1, 3}), head([2]int{1, 0}, [2]int{1, 2}), head([2]int{63, 2}), head([2]int{64, 2}), two, many} {
		packed(3)
		r.data("wrong head", b, token.Fail)
		if r.m.State() != api.STran {
			t.Errorf("head %d: the command goes on", i)
		}
		r.tells("range", api.Status, 5<<16, usual|api.BRange)
	}
	r.tells("count", api.SetCount, 1<<30|1, usual)
	r.tells("one", api.WriteMany, 0, usual|api.BRange)
	for _, area := range []int{api.Boot0, api.Rpa} {
		r.set(api.RArea, area, 0)
		r.tells("count", api.SetCount, 1<<30|2, usual)
		r.tells("area", api.WriteMany, 0, usual|api.BRange)
	}
}

func TestGuard(t *testing.T) { // P2002, P2003
	r := rigged(t)
	r.tells("guard", api.SetGuard, 17, usual)
	r.write(17, 1, token.Fail)
	r.tells("told", api.Status, 5<<16, usual|api.BGuard)
	r.write(15, 2, token.Good)
	b := r.tells("bits", api.SendGuard, 8, usual)[0]
	want := row(0)
	want[3] = 2
	if !bytes.Equal(b, want) {
		t.Errorf("%x", b[:4])
	}
	r.tells("count", api.SetCount, 3, usual)
	r.tells("many", api.WriteMany, 15, api.SRecv<<9|api.BReady)
	r.data("free", row(3), token.Good)
	r.data("guarded", row(3), token.Fail)
	r.data("guarded", row(3), token.Fail)
	r.tells("done", api.Status, 5<<16, usual|api.BGuard)
	r.reads("it stays", 15, 3, 0, 0)
	r.tells("clear", api.ClrGuard, 16, usual)
	r.write(17, 1, token.Good)
	r.set(api.RGuard, 1, 0)
	r.tells("power", api.SetGuard, 0, usual)
	r.tells("clear", api.ClrGuard, 0, usual|api.BGuard)
	r.set(api.RGuard, 2, 0)
	r.tells("good", api.SetGuard, 8, usual)
	for _, i := range []int{api.SetGuard, api.ClrGuard, api.SendGuard} {
		if l := r.tells("beyond", i, 64, usual|api.BRange); len(l) > 0 {
			t.Error("a block")
		}
	}
	r.set(api.RArea, api.Boot1, 0)
	r.tells("boot", api.SetGuard, 0, usual|api.BRange)
	r.write(0, 5, token.Good)
	r.set(api.RBoot, 2, 0)
	r.write(0, 6, token.Fail)
	r.set(api.RArea, api.Boot0, api.BGuard)
	r.write(0, 7, token.Good)
	r.m.PowerUp(func(int) []byte { return nil })
	r.up()
	r.write(0, 8, token.Good)
	r.write(8, 8, token.Fail)
	r.set(api.RArea, api.Boot1, api.BGuard)
	r.write(0, 8, token.Fail)
}

func TestErase(t *testing.T) { // P2002
	r := rigged(t)
	for i := range 6 {
		r.write(i, byte(i+1), token.Good)
	}
	erase := func(from, to int) {
		t.Helper()
		r.tells("from", api.EraseFrom, uint32(from), usual)
		r.tells("to", api.EraseTo, uint32(to), usual)
	}
	erase(0, 0)
	r.tells("erase", api.Erase, 0, usual)
	r.reads("erased", 0, 0, 2)
	r.tells("forgotten", api.Erase, 0, usual|api.BErase)
	erase(1, 1)
	r.tells("status", api.Status, 5<<16, usual)
	r.tells("argument", api.Erase, 2, usual|api.BErase)
	r.tells("forgotten", api.Erase, 0, usual|api.BErase)
	r.tells("to alone", api.EraseTo, 0, usual|api.BErase)
	r.tells("from", api.EraseFrom, 2, usual)
	r.tells("below", api.EraseTo, 1, usual|api.BErase)
	r.tells("from is gone", api.EraseTo, 3, usual|api.BErase)
	r.tells("from", api.EraseFrom, 2, usual)
	r.tells("beyond", api.EraseTo, 64, usual|api.BRange)
	r.tells("from is gone", api.EraseTo, 3, usual|api.BErase)
	erase(2, 3)
	r.tells("from", api.EraseFrom, 64, usual|api.BRange)
	r.tells("nothing is from", api.Erase, 0, usual|api.BErase)
	erase(2, 3)
	r.tells("another", api.ReadOne, 0, usual)
	r.tells("forgotten", api.Erase, 0, usual|api.BErase)
	erase(2, 3)
	r.tells("from anew", api.EraseFrom, 4, usual)
	r.tells("to is gone", api.Erase, 0, usual|api.BErase)
	r.tells("guard", api.SetGuard, 8, usual)
	r.write(16, 9, token.Good)
	r.set(api.RCache, 1, 0)
	r.write(4, 77, token.Good)
	erase(3, 16)
	r.tells("guarded", api.Erase, 3, usual|api.BGuard)
	for i := range 20 {
		if want := i >= 3 && i < 8 || i == 16; r.m.Loose(i) != want {
			t.Errorf("sector %d: loose", i)
		}
	}
	r.reads("loose", 2, 3, 0, 0, 0)
	r.write(4, 8, token.Good)
	erase(5, 5)
	r.tells("erase", api.Erase, 1, usual)
	if r.m.Loose(4) || r.m.Loose(5) || !r.m.Loose(3) {
		t.Error("loose no more")
	}
	r.m.PowerUp(func(int) []byte { return nil })
	r.up()
	if r.m.Loose(3) {
		t.Error("loose behind a power-up")
	}
	r.set(api.RArea, api.Rpa, 0)
	r.tells("keyed", api.EraseFrom, 0, usual|api.BRange)
}

func TestKeyed(t *testing.T) { // P2002, P2003
	r := rigged(t)
	key := [32]byte{1, 2, 3}
	r.set(api.RArea, api.Rpa, 0)
	send := func(what string, f rpa.Frame, want byte) {
		t.Helper()
		r.tells(what, api.WriteOne, 0, api.SRecv<<9|api.BReady)
		b := row(0)
		e := rpa.Encode(f)
		copy(b, e[:])
		r.data(what, b, want)
	}
	asks := func(what string, want rpa.Frame) {
		t.Helper()
		b := r.tells(what, api.ReadOne, 12345, usual)[0]
		if f, e := rpa.Decode(b); f != want || e != api.OK {
			t.Errorf("%s: %+v", what, f)
		}
	}
	asks("nothing was asked", rpa.Frame{})
	k := rpa.Frame{Type: rpa.Key}
	copy(k.Data[:], key[:])
	send("key", k, token.Good)
	asks("key", rpa.Frame{Type: 256})
	w := rpa.Sign(rpa.Frame{Type: rpa.Write, Addr: 2, Count: 1, Data: [64]byte{9}}, key)
	send("write", w, token.Good)
	asks("write", rpa.Sign(rpa.Frame{Type: 768, Addr: 2, Counter: 1}, key))
	send("again", w, token.Good)
	asks("again", rpa.Sign(rpa.Frame{Type: 768, Addr: 2, Counter: 1, Result: 3}, key))
	send("read", rpa.Frame{Type: rpa.Read, Addr: 2}, token.Good)
	asks("read", rpa.Sign(rpa.Frame{Type: 1024, Addr: 2, Count: 1, Data: [64]byte{9}}, key))
	want := row(0)
	want[0] = 9
	if !bytes.Equal(r.m.Sector(64+8+2), want) || r.m.Rpa() != (rpa.State{Key: key, HasKey: true, Counter: 1}) {
		t.Error("what it holds")
	}
	r.tells("form", api.WriteOne, 0, api.SRecv<<9|api.BReady)
	r.data("form", row(1), token.Fail)
	r.tells("form", api.Status, 5<<16, usual|api.BFail)
	r.tells("count", api.SetCount, 2, usual)
	r.tells("two", api.WriteMany, 0, usual|api.BRange)
	r.tells("count", api.SetCount, 2, usual)
	r.tells("two", api.ReadMany, 0, usual|api.BRange)
	r.m.PowerUp(func(int) []byte { return nil })
	r.up()
	r.set(api.RArea, api.Rpa, 0)
	asks("nothing is asked", rpa.Frame{})
	if r.m.Rpa().Counter != 1 {
		t.Error("the counter lasts")
	}
}
