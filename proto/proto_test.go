package proto_test

import (
	"testing"

	"locket/api"
	"locket/areas"
	"locket/frame"
	"locket/guard"
	"locket/proto"
	"locket/regs"
	"locket/rpa"
	"locket/token"
)

// weak is a store that can do nothing, as long as it is told so, and may lose its power.
type weak struct {
	ok, down bool
	puts     []proto.Put
	touched  []int
	kept     int
}

func (s *weak) Read(int) ([]byte, bool) { return make([]byte, 128), s.ok }

func (s *weak) Write(l []proto.Put) bool {
	s.puts = append(s.puts, l...)
	return s.ok
}

func (s *weak) Clear([]int, bool) bool { return s.ok }

func (s *weak) Touch(place int) { s.touched = append(s.touched, place) }

func (s *weak) Keep(*regs.File, *guard.Guard) bool {
	s.kept++
	return s.ok
}

func (s *weak) Keyed(rpa.Step, int, rpa.State) bool { return s.ok }

func (s *weak) Work() bool { return s.ok }

func (s *weak) Health() (life, debt byte) { return 3, 4 }

func (s *weak) Down() bool { return s.down }

func shape() api.Config {
	return api.Config{Blocks: 120, Pages: 16, Sector: 128, User: 64, Boot: 4, Rpa: 4, Group: 8, Cache: 2, Spare: 4}
}

func card(t *testing.T, s *weak) *proto.Card {
	t.Helper()
	table, e := areas.New(shape(), areas.Setting{})
	if e != api.OK {
		t.Fatal(e)
	}
	groups, _ := guard.New(8)
	k, ok := proto.New(shape(), s, proto.Lasting{Regs: regs.New(), Guard: groups, Areas: table})
	if !ok {
		t.Fatal("no card")
	}
	for _, c := range [][2]uint32{{api.GoIdle, 0}, {api.OpCond, 0}, {api.AllCid, 0}, {api.SetAddr, 0}, {api.Select, 0}} {
		do(k, c[0], c[1])
	}
	return k
}

func do(k *proto.Card, index, argument uint32) api.Answer {
	return k.Command(frame.Command{Index: int(index), Argument: argument}, true)
}

const usual = api.STran<<9 | api.BReady

func TestFailing(t *testing.T) {
	s := &weak{}
	k := card(t, s)
	for _, c := range [][2]uint32{{api.ReadOne, 3}, {api.Switch, 3<<24 | api.RBoot<<16 | 1<<8}, {api.SetGuard, 3}, {api.Switch, 3<<24 | api.RWork<<16 | 1<<8}} {
		if a := do(k, c[0], c[1]); a.Status != usual|api.BFail || len(a.Blocks) > 0 {
			t.Errorf("%v: %x", c, a.Status)
		}
	}
	do(k, api.WriteOne, 20)
	if got := k.Data(make([]byte, 128), true); got != token.Fail || do(k, api.Status, 0).Status != usual|api.BFail {
		t.Errorf("token %x", got)
	}
	do(k, api.EraseFrom, 20)
	do(k, api.EraseTo, 20)
	if a := do(k, api.Erase, 0); a.Status != usual|api.BFail {
		t.Errorf("%x", a.Status)
	}
	if b := k.Regs(); b[api.RLife] != 3 || b[api.RDebt] != 4 {
		t.Error("registers")
	}
	s.ok = true
	if a := do(k, api.ReadOne, 3); a.Status != usual || len(a.Blocks) != 1 {
		t.Errorf("%x", a.Status)
	}
}

func TestDown(t *testing.T) {
	s := &weak{ok: true}
	k := card(t, s)
	do(k, api.WriteOne, 20)
	s.down = true
	if k.Data(make([]byte, 128), true) != token.Fail || !do(k, api.Status, 0).None {
		t.Error("a card without power answers")
	}
	if len(s.puts)+len(s.touched) != 0 {
		t.Error("it writes")
	}
}

func TestCacheOrder(t *testing.T) {
	s := &weak{ok: true}
	k := card(t, s)
	do(k, api.Switch, 3<<24|api.RCache<<16|1<<8)
	for i := range uint32(4) {
		do(k, api.WriteOne, i)
		k.Data(make([]byte, 128), true)
		do(k, api.Switch, 3<<24|api.RBarrier<<16|1<<8)
	}
	do(k, api.Switch, 3<<24|api.RFlush<<16|1<<8)
	if len(s.puts) != 4 || len(s.touched) != 4 || len(k.Cached()) != 0 || s.kept != 0 {
		t.Fatal(s.puts)
	}
	for i, p := range s.puts {
		if p.Place != i {
			t.Error("out of order")
		}
	}
}
