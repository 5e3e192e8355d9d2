package geom_test

import (
	"math"
	"testing"

	"locket/api"
	"locket/geom"
)

func good() api.Config {
	return api.Config{Blocks: 60, Pages: 16, Sector: 128, User: 256, Boot: 8, Rpa: 8, Group: 16, Cache: 8, Spare: 4}
}

func TestCheck(t *testing.T) { // P701
	if geom.Check(good()) != api.OK {
		t.Fatal("a right shape")
	}
	big := api.Config{Blocks: 1024, Pages: 256, Sector: 448, User: 1 << 14, Boot: 256, Rpa: 256, Group: 1 << 9, Cache: 64, Spare: 800}
	if geom.Check(big) != api.OK {
		t.Error("a big shape")
	}
	wrong := map[string]func(c *api.Config){
		"no blocks": func(c *api.Config) { c.Blocks = 0 }, "many blocks": func(c *api.Config) { c.Blocks = 1025 },
		"few pages": func(c *api.Config) { c.Pages = 2 }, "odd pages": func(c *api.Config) { c.Pages = 17 }, "many pages": func(c *api.Config) { c.Pages = 258 },
		"small sector": func(c *api.Config) { c.Sector = 64 }, "big sector": func(c *api.Config) { c.Sector = 512 }, "uneven sector": func(c *api.Config) { c.Sector = 160 },
		"no user": func(c *api.Config) { c.User = 0 }, "many sectors": func(c *api.Config) { c.User, c.Group, c.Pages, c.Blocks = 1<<14+512, 1<<10, 256, 1024 },
		"no boot": func(c *api.Config) { c.Boot = 0 }, "much boot": func(c *api.Config) { c.Boot, c.Blocks = 257, 1024 },
		"no rpa": func(c *api.Config) { c.Rpa = 0 }, "much rpa": func(c *api.Config) { c.Rpa, c.Blocks = 257, 1024 },
		"no group": func(c *api.Config) { c.Group = 0 }, "a great group": func(c *api.Config) { c.Group = 257 }, "no multiple": func(c *api.Config) { c.Group = 24 },
		"many groups": func(c *api.Config) { c.Group = 4 }, "below": func(c *api.Config) { c.Group = -16 },
		"cache": func(c *api.Config) { c.Cache = 65 }, "no cache": func(c *api.Config) { c.Cache = -1 },
		"spare": func(c *api.Config) { c.Spare = -1 }, "much spare": func(c *api.Config) { c.Spare = 61 }, "need": func(c *api.Config) { c.Spare = 8 },
		"least": func(c *api.Config) { c.User = math.MinInt }, "most": func(c *api.Config) { c.Boot, c.Rpa = math.MaxInt, math.MaxInt },
	}
	for what, f := range wrong {
		c := good()
		f(&c)
		if geom.Check(c) != api.ErrArg {
			t.Errorf("%s: %+v", what, c)
		}
	}
	c := good()
	c.Group = 8
	if geom.Check(c) != api.OK || geom.Groups(c) != 32 || geom.Chunks(c) != 3 {
		t.Error("32 groups")
	}
}

func TestNeed(t *testing.T) { // P702
	c := good()
	c.Spare = 0
	for e, want := range map[int]int{0: 53, -5: 53, 16: 24 + 15 + 8 + 5 + 3, 256: 24 + 35 + 18, 1000: 24 + 35 + 18} {
		if got := geom.Need(c, e); got != want {
			t.Errorf("Need(%d) = %d, not %d", e, got, want)
		}
	}
	c.Spare = 7
	if geom.Need(c, 0) != 60 || geom.Check(c) != api.OK {
		t.Error("with Spare, at the bound")
	}
	for _, c := range []api.Config{{}, {Pages: 1, User: 5}, {Pages: -2, User: math.MinInt, Group: -1, Boot: math.MaxInt}} {
		geom.Need(c, math.MinInt)
		geom.Groups(c)
		geom.Ram(c)
		geom.Chunks(c)
		geom.Sizes(c, [4]int{math.MaxInt, -1})
	}
}

func TestFits(t *testing.T) { // P703
	c := good()
	for _, x := range []struct {
		sizes    [4]int
		enhanced byte
		want     bool
	}{
		{[4]int{}, 0, true}, {[4]int{1, 2, 3, 4}, 0, true}, {[4]int{15}, 0, true}, {[4]int{16}, 0, false}, {[4]int{4, 4, 4, 4}, 0, false},
		{[4]int{-1, 2}, 0, false}, {[4]int{math.MaxInt, math.MaxInt, 3, 0}, 0, false},
		{[4]int{1}, 0x10, true}, {[4]int{1}, 0x80, true}, {[4]int{1}, 0x11, false}, {[4]int{15}, 0x01, true}, {[4]int{2}, 0x10, true}, {[4]int{3}, 0x10, false},
		{[4]int{1}, 2, false}, {[4]int{1}, 4, false}, {[4]int{1}, 8, false},
	} {
		if geom.Fits(c, x.sizes, x.enhanced) != x.want {
			t.Errorf("%v %x", x.sizes, x.enhanced)
		}
	}
	c.Blocks = 10
	if geom.Fits(c, [4]int{}, 0) {
		t.Error("of a wrong shape")
	}
	if got := geom.Sizes(good(), [4]int{1, 0, 2, 3}); got != [8]int{160, 8, 8, 8, 16, 0, 32, 48} {
		t.Error(got)
	}
}

func TestEncode(t *testing.T) { // P704
	c := good()
	if geom.Ram(c) != 4*256+32*60+8*192+16384 {
		t.Error(geom.Ram(c))
	}
	b := geom.Encode(c)
	if len(b) != 36 || b[0] != 60 || b[12] != 0 || b[13] != 1 || b[32] != 4 {
		t.Errorf("%x", b)
	}
	if d, e := geom.Decode(b); d != c || e != api.OK {
		t.Error(e)
	}
	if x := geom.Encode(api.Config{Blocks: -1, Spare: 1 << 33}); x[0] != 255 || x[3] != 255 || x[32] != 0 {
		t.Errorf("%x", x)
	}
	b[0] = 5
	for _, x := range [][]byte{nil, b, b[:35], append(geom.Encode(c), 0), make([]byte, 36)} {
		if d, e := geom.Decode(x); d != (api.Config{}) || e != api.ErrForm {
			t.Errorf("%x: %v", x, e)
		}
	}
}
