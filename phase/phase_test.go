package phase_test

import (
	"slices"
	"testing"

	"locket/api"
	"locket/phase"
)

// rule is the chapter's table, written down another way.
func rule(state, index int, mine bool) (int, bool) {
	if !slices.Contains(phase.States(), state) {
		return state, false
	}
	if index == api.GoIdle {
		return api.SIdle, true
	}
	in := func(l ...int) bool { return slices.Contains(l, index) }
	switch state {
	case api.SIdle:
		if in(api.OpCond) {
			return api.SReady, true
		}
	case api.SReady:
		if in(api.AllCid) {
			return api.SIdent, true
		}
	case api.SIdent:
		if in(api.SetAddr) {
			return api.SStand, true
		}
	case api.SStand:
		if in(api.Select) {
			return map[bool]int{true: api.STran, false: api.SStand}[mine], true
		}
		return api.SStand, mine && in(api.SendCsd, api.Status)
	case api.STran:
		if in(api.Select) {
			return map[bool]int{true: api.STran, false: api.SStand}[mine], !mine
		}
		if in(api.WriteOne, api.WriteMany) {
			return api.SRecv, true
		}
		return api.STran, mine && in(api.Status) || in(6, 8, 17, 18, 23, 28, 29, 30, 35, 36, 38)
	case api.SRecv:
		if in(api.Stop) {
			return api.STran, true
		}
		return api.SRecv, mine && in(api.Status)
	}
	return state, false
}

func TestNext(t *testing.T) { // P1901
	if !slices.Equal(phase.States(), []int{0, 1, 2, 3, 4, 6}) {
		t.Error(phase.States())
	}
	for state := -2; state < 9; state++ {
		for index := -2; index < 70; index++ {
			for _, mine := range []bool{false, true} {
				s, ok := rule(state, index, mine)
				if got, had := phase.Next(state, index, mine); got != s || had != ok {
					t.Errorf("%d, %d, %v: %d %v", state, index, mine, got, had)
				}
			}
		}
	}
}

func goes(t *testing.T, m *phase.Machine, index int, argument uint32, answers, ok bool, state int) {
	t.Helper()
	if m.Legal(index, argument) != ok {
		t.Errorf("%d: legal", index)
	}
	if a, k := m.Go(index, argument); a != answers || k != ok || m.State() != state {
		t.Errorf("%d: %v %v, state %d", index, a, k, m.State())
	}
}

func TestMachine(t *testing.T) { // P1902
	m := phase.New()
	if m.State() != api.SIdle || m.Addr() != 0 || m.Left() != 0 || m.Got() {
		t.Error("a new machine")
	}
	goes(t, m, api.AllCid, 0, false, false, api.SIdle)
	goes(t, m, api.OpCond, 0, true, true, api.SReady)
	goes(t, m, api.AllCid, 0, true, true, api.SIdent)
	goes(t, m, api.SetAddr, 0x1234FFFF, true, true, api.SStand)
	if m.Addr() != 0x1234 {
		t.Error(m.Addr())
	}
	goes(t, m, api.Status, 0, false, false, api.SStand)
	goes(t, m, api.SendCsd, 0x12340000, true, true, api.SStand)
	goes(t, m, api.Select, 0x12350000, false, true, api.SStand)
	goes(t, m, api.Select, 0x12340001, true, true, api.STran)
	m.Receive(5)
	if m.Left() != 0 {
		t.Error("no block is waited for")
	}
	goes(t, m, api.WriteOne, 0, true, true, api.SRecv)
	if m.Left() != 1 {
		t.Error("one block")
	}
	for n, want := range map[int]int{-1: 1, 0: 1, 3: 3, 64: 64, 65: 64} {
		if m.Receive(n); m.Left() != want {
			t.Errorf("%d: %d", n, m.Left())
		}
	}
	m.Receive(2)
	goes(t, m, api.Status, 0x12340000, true, true, api.SRecv)
	if !m.Got() || m.Left() != 1 || m.State() != api.SRecv || !m.Got() || m.State() != api.STran || m.Left() != 0 || m.Got() {
		t.Error("Got")
	}
	goes(t, m, api.WriteMany, 0, true, true, api.SRecv)
	m.Receive(9)
	goes(t, m, api.Stop, 0, true, true, api.STran)
	if m.Left() != 0 {
		t.Error("stopped")
	}
	goes(t, m, api.Select, 0x12340000, false, false, api.STran)
	goes(t, m, api.WriteMany, 0, true, true, api.SRecv)
	m.Receive(9)
	goes(t, m, api.GoIdle, 0, false, true, api.SIdle)
	if m.Addr() != 0x1234 || m.Left() != 0 {
		t.Error("GoIdle leaves the address")
	}
	m.Reset()
	if m.Addr() != 0 || m.State() != api.SIdle {
		t.Error("Reset")
	}
}
