package guard_test

import (
	"bytes"
	"math"
	"testing"

	"locket/api"
	"locket/guard"
)

func groups(t *testing.T, n int) *guard.Guard {
	t.Helper()
	g, e := guard.New(n)
	if e != api.OK {
		t.Fatal(e)
	}
	return g
}

func is(t *testing.T, what string, got, want api.Errno) {
	t.Helper()
	if got != want {
		t.Errorf("%s: %v, not %v", what, got, want)
	}
}

func TestSet(t *testing.T) { // P1401
	for _, n := range []int{0, -1, 257} {
		if g, e := guard.New(n); g != nil || e != api.ErrArg {
			t.Errorf("%d groups: %v", n, e)
		}
	}
	g := groups(t, 256)
	for _, n := range []int{-1, 256, math.MinInt} {
		is(t, "none", g.Set(n, 9), api.ErrRange)
		is(t, "none", g.Clear(n), api.ErrRange)
		if g.May(n) || g.Kind(n) != api.Free {
			t.Error("none")
		}
	}
	for _, k := range []int{api.Free, -1, 4, 256 + 1} {
		is(t, "kind", g.Set(255, k), api.ErrArg)
	}
	if !g.May(255) {
		t.Error("free")
	}
	is(t, "timed", g.Set(255, api.Timed), api.OK)
	is(t, "clear", g.Clear(255), api.OK)
	is(t, "clear free", g.Clear(255), api.OK)
	is(t, "power", g.Set(255, api.Power), api.OK)
	is(t, "weaker", g.Set(255, api.Timed), api.OK)
	if g.Kind(255) != api.Power || g.May(255) {
		t.Error("the greater one")
	}
	is(t, "clear power", g.Clear(255), api.ErrProtect)
	is(t, "good", g.Set(0, api.Good), api.OK)
	is(t, "timed", g.Set(1, api.Timed), api.OK)
	g.PowerUp()
	if g.Kind(255) != api.Free || g.Kind(0) != api.Good || g.Kind(1) != api.Timed {
		t.Error("power-up")
	}
	is(t, "clear good", g.Clear(0), api.ErrProtect)
}

func TestShow(t *testing.T) { // P1402
	g := groups(t, 40)
	g.Set(1, api.Timed)
	g.Set(3, api.Power)
	g.Set(34, api.Good)
	for from, want := range map[int]uint32{0: 0xA, 1: 5, 3: 1<<31 | 1, 34: 1, 35: 0, 40: 0, -1: 0, math.MaxInt: 0, math.MinInt: 0} {
		if got := g.Bits(from); got != want {
			t.Errorf("Bits(%d) = %x", from, got)
		}
	}
	b := g.Lasting()
	want := make([]byte, 40)
	want[1], want[34] = 1, 3
	if !bytes.Equal(b, want) {
		t.Errorf("%v", b)
	}
	l, e := guard.Load(40, b)
	b[1] = 0
	if e != api.OK || l.Kind(1) != api.Timed || l.Kind(3) != api.Free || l.Kind(34) != api.Good {
		t.Error(e)
	}
	for _, x := range [][]byte{nil, make([]byte, 39), make([]byte, 41), append(make([]byte, 39), 2), append(make([]byte, 39), 4)} {
		if l, e := guard.Load(40, x); l != nil || e != api.ErrForm {
			t.Errorf("%v: %v", x, e)
		}
	}
	if l, e := guard.Load(0, nil); l != nil || e != api.ErrArg {
		t.Error(e)
	}
	for r, want := range map[byte]int{0: 1, 1: 2, 2: 3, 3: 1, 255: 1} {
		if guard.Level(r) != want {
			t.Errorf("Level(%d)", r)
		}
	}
}

func TestAll(t *testing.T) { // P1402, P7
	g := groups(t, 8)
	g.Set(6, api.Good)
	g.Set(2, api.Timed)
	seq := g.All()
	g.Clear(2)
	for range 2 {
		var got [][2]int
		for n, k := range seq {
			got = append(got, [2]int{n, k})
		}
		if len(got) != 2 || got[0] != [2]int{2, 1} || got[1] != [2]int{6, 3} {
			t.Error(got)
		}
		for n := range seq {
			if n != 2 {
				t.Error(n)
			}
			break
		}
	}
}
