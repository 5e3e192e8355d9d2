package smap_test

import (
	"bytes"
	"testing"

	"locket/api"
	"locket/smap"
)

// box is a sink in memory; it fails when it is told so.
type box struct {
	pages [][]byte
	fail  api.Errno // of Get
	full  int       // how many puts are still taken; below 0: all
	puts  []int
}

func newBox() *box { return &box{full: -1} }

func (x *box) Put(n int, b []byte) (smap.Place, api.Errno) {
	if x.full == 0 {
		return smap.Place{}, api.ErrFull
	}
	x.full--
	x.puts = append(x.puts, n)
	x.pages = append(x.pages, bytes.Clone(b))
	k := len(x.pages) - 1
	return smap.Place{Block: k / 16, Page: k % 16}, api.OK
}

func (x *box) Get(p smap.Place) ([]byte, api.Errno) {
	if x.fail != api.OK {
		return nil, x.fail
	}
	return bytes.Clone(x.pages[p.Block*16+p.Page]), api.OK
}

func make1(t *testing.T, sectors, page, held int, x *box) *smap.Map {
	t.Helper()
	m, e := smap.New(sectors, page, held, x)
	if e != api.OK {
		t.Fatal(e)
	}
	return m
}

func is(t *testing.T, what string, got, want api.Errno) {
	t.Helper()
	if got != want {
		t.Errorf("%s: %v, not %v", what, got, want)
	}
}

func at(t *testing.T, m *smap.Map, sector int, want smap.Place, there bool, e api.Errno) {
	t.Helper()
	if p, ok, err := m.Get(sector); p != want || ok != there || err != e {
		t.Errorf("sector %d: %v %v %v, not %v %v %v", sector, p, ok, err, want, there, e)
	}
}

func TestNew(t *testing.T) { // P1001
	for _, x := range [][3]int{{0, 16, 1}, {1<<14 + 1, 16, 1}, {1, 12, 1}, {1, 4100, 1}, {1, 18, 1}, {1, 16, 0}, {1, 16, 1<<12 + 1}} {
		if m, e := smap.New(x[0], x[1], x[2], newBox()); m != nil || e != api.ErrArg {
			t.Errorf("%v: %v", x, e)
		}
		if m, e := smap.Load(x[0], x[1], x[2], newBox(), nil); m != nil || e != api.ErrArg {
			t.Errorf("%v: %v", x, e)
		}
	}
	for _, x := range [][4]int{{1, 16, 1, 1}, {4, 16, 1, 1}, {5, 16, 1, 2}, {1 << 14, 4096, 1 << 12, 16}} {
		if m := make1(t, x[0], x[1], x[2], newBox()); m.Parts() != x[3] || m.Held() != 0 || m.Dirty() != 0 {
			t.Errorf("%v: %d parts", x, m.Parts())
		}
	}
}

func TestSet(t *testing.T) { // P1002
	m := make1(t, 10, 16, 3, newBox())
	p := smap.Place{Block: 1023, Page: 255}
	for _, s := range []int{-1, 10, 1 << 40} {
		at(t, m, s, smap.Place{}, false, api.ErrArg)
		is(t, "set", m.Set(s, p), api.ErrArg)
		is(t, "clear", m.Clear(s), api.ErrArg)
	}
	for _, w := range []smap.Place{{-1, 0}, {1024, 0}, {0, -1}, {0, 256}} {
		is(t, "no place", m.Set(0, w), api.ErrArg)
		is(t, "no place", m.Moved(0, w), api.ErrArg)
	}
	at(t, m, 9, smap.Place{}, false, api.OK)
	is(t, "set", m.Set(9, p), api.OK)
	at(t, m, 9, p, true, api.OK)
	is(t, "set", m.Set(0, smap.Place{}), api.OK)
	at(t, m, 0, smap.Place{}, true, api.OK)
	if m.Dirty() != 2 {
		t.Errorf("%d are dirty", m.Dirty())
	}
	is(t, "clear", m.Clear(9), api.OK)
	at(t, m, 9, smap.Place{}, false, api.OK)
}

func TestAgainstTable(t *testing.T) { // P1003, P1004
	for held := 1; held < 7; held++ {
		x := newBox()
		m := make1(t, 23, 16, held, x)
		table := map[int]smap.Place{}
		seed := uint32(held)
		for range 2000 {
			seed = seed*1664525 + 1013904223
			s := int(seed>>8) % 23
			switch seed >> 28 {
			case 0:
				is(t, "flush", m.Flush(), api.OK)
				if m.Dirty() != 0 {
					t.Fatal("dirty behind a flush")
				}
				l, e := smap.Load(23, 16, held, x, m.Directory())
				if e != api.OK || l.Held() != 0 {
					t.Fatal(e)
				}
				m = l
			case 1, 2:
				is(t, "clear", m.Clear(s), api.OK)
				delete(table, s)
			default:
				p := smap.Place{Block: int(seed>>4) % 1024, Page: int(seed>>14) % 256}
				is(t, "set", m.Set(s, p), api.OK)
				table[s] = p
			}
			r := int(seed>>17) % 23
			p, there := table[r]
			at(t, m, r, p, there, api.OK)
			if m.Held() > held || m.Dirty() > m.Held() || len(m.Directory()) > 8+4*m.Parts() {
				t.Fatal("too many are held")
			}
		}
	}
}

func TestErrors(t *testing.T) { // P1002, P1003, P5
	x := newBox()
	m := make1(t, 16, 16, 2, x)
	m.Set(0, smap.Place{1, 1})
	m.Set(4, smap.Place{2, 2})
	before := m.Directory()
	x.full = 0
	at(t, m, 8, smap.Place{}, false, api.ErrFull)
	is(t, "set", m.Set(8, smap.Place{3, 3}), api.ErrFull)
	is(t, "clear", m.Clear(8), api.ErrFull)
	x.full = 1
	is(t, "flush", m.Flush(), api.ErrFull)
	if m.Dirty() != 2 || m.Held() != 2 || !bytes.Equal(m.Directory(), before) {
		t.Error("an error has changed something")
	}
	x.full = -1
	is(t, "set", m.Set(8, smap.Place{3, 3}), api.OK)
	is(t, "set", m.Set(12, smap.Place{4, 4}), api.OK)
	before, dirty := m.Directory(), m.Dirty()
	x.fail = api.ErrBad
	at(t, m, 0, smap.Place{}, false, api.ErrBad)
	x.fail = api.ErrDown
	at(t, m, 0, smap.Place{}, false, api.ErrDown)
	if m.Dirty() != dirty || m.Held() != 2 || !bytes.Equal(m.Directory(), before) {
		t.Error("an error has changed something")
	}
	x.fail = api.OK
	x.pages[1] = x.pages[1][1:]
	at(t, m, 0, smap.Place{}, false, api.ErrBad)
	x.pages[1] = []byte{0, 0, 0, 0, 1, 0, 4, 0, 0, 0, 0, 0, 0, 0, 0, 0}
	at(t, m, 0, smap.Place{}, false, api.ErrBad)
	x.pages[1] = []byte{0, 0, 0, 0, 0, 0, 4, 0, 0, 0, 0, 0, 0, 0, 0, 0}
	at(t, m, 1, smap.Place{1023, 255}, true, api.OK)
}

func TestDirectory(t *testing.T) { // P1001, P1003
	x := newBox()
	m := make1(t, 12, 16, 3, x)
	m.Set(0, smap.Place{5, 6})
	m.Set(11, smap.Place{7, 8})
	m.Flush()
	if len(x.puts) != 2 || x.puts[0] != 0 || x.puts[1] != 2 {
		t.Error(x.puts)
	}
	m.Flush()
	if len(x.puts) != 2 {
		t.Error("what has not changed is put again")
	}
	dir := m.Directory()
	wrong := bytes.Clone(dir)
	wrong[0] ^= 1
	far := bytes.Clone(dir)
	far[11] = 1
	for what, d := range map[string][]byte{"none": nil, "short": dir[1:], "long": append(bytes.Clone(dir), 0), "wrong": wrong, "far": far} {
		if l, e := smap.Load(12, 16, 3, x, d); l != nil || e != api.ErrForm {
			t.Errorf("%s: %v", what, e)
		}
	}
	if l, e := smap.Load(13, 16, 3, x, dir); l != nil || e != api.ErrForm {
		t.Error("of another map")
	}
	l, _ := smap.Load(12, 16, 1, x, dir)
	dir[8] ^= 0xFF
	at(t, l, 0, smap.Place{5, 6}, true, api.OK)
	at(t, l, 11, smap.Place{7, 8}, true, api.OK)
	at(t, l, 5, smap.Place{}, false, api.OK)
}

func TestMoved(t *testing.T) { // P1003
	x := newBox()
	m := make1(t, 12, 16, 1, x)
	m.Set(0, smap.Place{5, 6})
	m.Flush()
	x.Put(0, x.pages[0])
	is(t, "moved", m.Moved(0, smap.Place{0, 1}), api.OK)
	is(t, "no part", m.Moved(3, smap.Place{0, 1}), api.ErrArg)
	is(t, "no part", m.Moved(-1, smap.Place{0, 1}), api.ErrArg)
	x.pages[0] = nil
	l, _ := smap.Load(12, 16, 1, x, m.Directory())
	at(t, l, 0, smap.Place{5, 6}, true, api.OK)
	at(t, m, 8, smap.Place{}, false, api.OK) // the first part makes way
	at(t, m, 0, smap.Place{5, 6}, true, api.OK)
	m.Set(0, smap.Place{9, 9})
	m.Moved(0, smap.Place{0, 1})
	at(t, m, 0, smap.Place{9, 9}, true, api.OK)
	m.Flush()
	l, _ = smap.Load(12, 16, 1, x, m.Directory())
	at(t, l, 0, smap.Place{9, 9}, true, api.OK)
}
