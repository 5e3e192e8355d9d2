package areas_test

import (
	"bytes"
	"math"
	"sync"
	"testing"

	"locket/api"
	"locket/areas"
	"locket/geom"
)

func shape() api.Config {
	return api.Config{Blocks: 120, Pages: 16, Sector: 128, User: 256, Boot: 8, Rpa: 4, Group: 16, Cache: 8, Spare: 4}
}

func table(t *testing.T, s areas.Setting) *areas.Table {
	t.Helper()
	a, e := areas.New(shape(), s)
	if e != api.OK {
		t.Fatal(e)
	}
	return a
}

func done(sizes [4]int, enh byte) areas.Setting {
	return areas.Setting{Sizes: sizes, Enhanced: enh, Done: true}
}

func TestNew(t *testing.T) { // P1301
	wrong := shape()
	wrong.User = 0
	if a, e := areas.New(wrong, areas.Setting{}); a != nil || e != api.ErrArg {
		t.Error("wrong shape")
	}
	for _, s := range []areas.Setting{done([4]int{16}, 0), done([4]int{-1}, 0), done([4]int{}, 2)} {
		if a, e := areas.New(shape(), s); a != nil || e != api.ErrArg {
			t.Errorf("%+v: %v", s, e)
		}
	}
	loose := areas.Setting{Sizes: [4]int{-5, math.MaxInt}, Enhanced: 255}
	a := table(t, loose)
	if a.Active() || a.Setting() != loose || a.Size(api.User) != 256 || a.Size(api.Gen0) != 0 || a.Enhanced(0) {
		t.Error("not done")
	}
	a = table(t, done([4]int{1, 0, 2, 0}, 0x41))
	for area, want := range [8]int{208, 8, 8, 4, 16, 0, 32, 0} {
		if a.Size(area) != want {
			t.Errorf("area %d has %d", area, a.Size(area))
		}
	}
	if !a.Active() || a.Size(-1) != 0 || a.Size(8) != 0 {
		t.Error("active")
	}
}

func TestSet(t *testing.T) { // P1302
	a := table(t, areas.Setting{})
	if e := a.Set(done([4]int{16}, 0)); e != api.ErrArg || a.Setting() != (areas.Setting{}) {
		t.Error(e)
	}
	draft := areas.Setting{Sizes: [4]int{99}}
	if e := a.Set(draft); e != api.OK || a.Setting() != draft {
		t.Error(e)
	}
	if u := a.PowerUp(); u.Active() || u.Setting() != (areas.Setting{}) || u.Size(api.User) != 256 {
		t.Error("a setting that is not done is as if nothing were set")
	}
	s := done([4]int{2, 1, 0, 0}, 0x20)
	if e := a.Set(s); e != api.OK || a.Active() || a.Size(api.Gen0) != 0 || a.Setting() != s {
		t.Error("areas stay till the power comes up")
	}
	if a.Set(s) != api.ErrSet || a.Set(done([4]int{16}, 0)) != api.ErrSet || a.Set(areas.Setting{}) != api.ErrSet {
		t.Error("set once")
	}
	u := a.PowerUp()
	if !u.Active() || u.Size(api.Gen0) != 32 || u.Setting() != s || u.Set(s) != api.ErrSet || a.Active() {
		t.Error("powered up")
	}
	if v := u.PowerUp(); !v.Active() || v.Setting() != s || v.Size(api.User) != 208 {
		t.Error("powered up again")
	}
}

func TestPlaces(t *testing.T) { // P1303
	a := table(t, done([4]int{1, 0, 2, 0}, 0x41))
	next := 0
	for _, area := range []int{0, 4, 5, 6, 7, 1, 2, 3} {
		for sector := range a.Size(area) {
			if p, ok := a.Place(area, sector); p != next || !ok {
				t.Fatalf("sector %d of %d: %d", sector, area, p)
			}
			if x, y, ok := a.Of(next); x != area || y != sector || !ok {
				t.Fatalf("place %d: %d %d", next, x, y)
			}
			if want := area != 4; a.Enhanced(next) != want {
				t.Fatalf("place %d: enhanced", next)
			}
			next++
		}
	}
	for _, p := range []int{-1, next, math.MinInt, math.MaxInt} {
		if x, y, ok := a.Of(p); x != 0 || y != 0 || ok || a.Enhanced(p) {
			t.Errorf("place %d", p)
		}
	}
	for _, x := range [][2]int{{-1, 0}, {8, 0}, {0, -1}, {0, 208}, {5, 0}} {
		if p, ok := a.Place(x[0], x[1]); p != 0 || ok {
			t.Errorf("%v", x)
		}
	}
	var w sync.WaitGroup
	b := table(t, done([4]int{3}, 0))
	for range 4 {
		w.Add(1)
		go func() {
			defer w.Done()
			if p, _ := b.Place(api.Gen0, 1); p != 209 {
				t.Error(p)
			}
		}()
	}
	w.Wait()
}

func TestEncode(t *testing.T) { // P1303
	s := areas.Setting{Sizes: [4]int{1, 1<<32 - 1, 0x01020304, 0}, Enhanced: 0x91, Done: true}
	b := areas.Encode(s)
	if !bytes.Equal(b, []byte{1, 0, 0, 0, 255, 255, 255, 255, 4, 3, 2, 1, 0, 0, 0, 0, 0x91, 1}) {
		t.Errorf("%x", b)
	}
	if d, e := areas.Decode(b); d != s || e != api.OK {
		t.Error(d, e)
	}
	b[17] = 2
	for _, x := range [][]byte{nil, b, b[:17], append(bytes.Clone(b), 0)} {
		if d, e := areas.Decode(x); d != (areas.Setting{}) || e != api.ErrForm {
			t.Errorf("%x: %v", x, e)
		}
	}
	if areas.Encode(areas.Setting{Sizes: [4]int{-1}})[0] != 255 || !geom.Fits(shape(), [4]int{}, 0) {
		t.Error("lowest bits")
	}
}
