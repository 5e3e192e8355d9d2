package ftl_test

import (
	"bytes"
	"errors"
	"testing"

	"locket/api"
	"locket/ftl"
	"locket/geom"
	"locket/media"
	"locket/nand"
	"locket/wear"
)

func small() api.Config {
	return api.Config{Blocks: 34, Pages: 8, Sector: 128, User: 16, Boot: 2, Rpa: 2, Group: 4, Spare: 2}
}

func flashOf(c api.Config) (*nand.Flash, *media.Media) {
	f, _ := nand.New(c.Blocks, c.Pages, geom.Chunks(c))
	m, _ := media.New(f, c.Sector+64)
	return f, m
}

func wraps(t *testing.T, what string, s *ftl.Store, err error, want api.Errno) {
	t.Helper()
	if s != nil || !errors.Is(err, want) {
		t.Errorf("%s: %v, not %v", what, err, want)
	}
}

func is(t *testing.T, what string, got, want api.Errno) {
	t.Helper()
	if got != want {
		t.Errorf("%s: %v, not %v", what, got, want)
	}
}

func row(c api.Config, x byte) []byte { return bytes.Repeat([]byte{x}, c.Sector) }

func none(int) bool { return false }

func TestFormat(t *testing.T) { // P1101
	c := small()
	f, m := flashOf(c)
	wrong := c
	wrong.Blocks = 20
	s, err := ftl.Format(wrong, m, none)
	wraps(t, "wrong shape", s, err, api.ErrArg)
	other := c
	other.Pages = 16
	s, err = ftl.Format(other, m, none)
	wraps(t, "other pages", s, err, api.ErrArg)
	s, err = ftl.Open(other, m)
	wraps(t, "other pages", s, err, api.ErrArg)
	short, _ := media.New(f, c.Sector+63)
	s, err = ftl.Format(c, short, none)
	wraps(t, "short pages", s, err, api.ErrArg)
	if _, p, _, _ := f.Count(); p != 0 {
		t.Error("an error has changed something")
	}
	s, err = ftl.Open(c, m)
	wraps(t, "nothing there", s, err, api.ErrLost)
	bad, _ := media.New(f, c.Sector+64, 1, 2, 3)
	s, err = ftl.Format(c, bad, none)
	wraps(t, "too many are bad", s, err, api.ErrFail)
	full := c
	full.Blocks = geom.Need(c, 0)
	g, n := flashOf(full)
	s, err = ftl.Format(full, n, func(int) bool { return true })
	wraps(t, "too few blocks", s, err, api.ErrFail)
	g.Cut()
	s, err = ftl.Format(full, n, none)
	wraps(t, "off", s, err, api.ErrDown)
	s, err = ftl.Open(full, n)
	wraps(t, "off", s, err, api.ErrDown)
	some, _ := media.New(f, c.Sector+64, 0, 33)
	s, err = ftl.Format(c, some, none)
	if err != nil || s.Sectors() != 22 || s.Loads() != 0 {
		t.Fatal(err)
	}
	s, err = ftl.Open(c, short)
	wraps(t, "short pages", s, err, api.ErrArg)
	wide := c
	wide.Group = 8
	s, err = ftl.Open(wide, m)
	wraps(t, "of another card", s, err, api.ErrLost)
	if s, err = ftl.Open(c, m); err != nil || s.Sectors() != 22 {
		t.Error(err)
	}
	f.Arm(5)
	s, err = ftl.Format(c, m, none)
	wraps(t, "cut", s, err, api.ErrDown)
}

// seen is what can be told of a flash.
func seen(f *nand.Flash) [4]int64 {
	var x [4]int64
	x[0], x[1], x[2], x[3] = f.Count()
	return x
}

// TestWidth asks for each length of pages, whatever else is wrong.
func TestWidth(t *testing.T) { // P1101: ErrArg is ahead of all other errors, and changes nothing
	c := small()
	c.Sector, c.Blocks = 192, geom.Need(c, 0)
	all := func(int) bool { return true }
	for _, there := range []bool{false, true} {
		f, m := flashOf(c)
		if there {
			if _, err := ftl.Format(c, m, none); err != nil {
				t.Fatal(err)
			}
		}
		before := seen(f)
		for n := 1; n <= 64*geom.Chunks(c); n++ {
			if n == c.Sector+64 {
				continue
			}
			for _, bad := range [][]int{nil, {1}, {1, 2, 3, 4}} {
				m, _ := media.New(f, n, bad...)
				s, err := ftl.Open(c, m)
				wraps(t, "open", s, err, api.ErrArg)
				s, err = ftl.Format(c, m, none)
				wraps(t, "format", s, err, api.ErrArg)
				s, err = ftl.Format(c, m, all)
				wraps(t, "too few blocks", s, err, api.ErrArg)
			}
		}
		f.Cut()
		short, _ := media.New(f, c.Sector+63)
		s, err := ftl.Open(c, short)
		wraps(t, "open, off", s, err, api.ErrArg)
		s, err = ftl.Format(c, short, none)
		wraps(t, "format, off", s, err, api.ErrArg)
		f.On()
		if seen(f) != before {
			t.Errorf("an error has changed something: %v, %v", before, seen(f))
		}
		if s, err = ftl.Open(c, m); there != (err == nil) {
			t.Errorf("open of the right length: %v", err)
		}
		if s, err = ftl.Format(c, m, none); err != nil {
			t.Error(err)
		}
	}
}

// TestWidthArmed: what is armed stays armed, and the flash blank.
func TestWidthArmed(t *testing.T) { // P1101, P404
	c := small()
	f, m := flashOf(c)
	short, _ := media.New(f, c.Sector+1)
	f.Arm(1)
	s, err := ftl.Format(c, short, none)
	wraps(t, "format", s, err, api.ErrArg)
	s, err = ftl.Open(c, short)
	wraps(t, "open", s, err, api.ErrArg)
	s, err = ftl.Open(c, m)
	wraps(t, "nothing there", s, err, api.ErrLost)
	if f.Off() || seen(f) != [4]int64{} {
		t.Errorf("an error has changed something: %v", seen(f))
	}
	s, err = ftl.Format(c, m, none)
	wraps(t, "what was armed", s, err, api.ErrDown)
}

func TestFormatAgain(t *testing.T) { // P1101: what lay there, in failed blocks too, is gone
	c := small()
	b := newBench(t, c, 5, none)
	for range 300 {
		b.step(0)
	}
	b.f.Fail(0)
	b.f.Fail(1)
	b.data, b.recs, b.life = map[int][]byte{}, map[int][]byte{}, 0
	b.enh = boots(c)
	s, err := ftl.Format(c, b.media(), b.enh)
	if err != nil {
		t.Fatal(err)
	}
	b.s = s
	b.look()
	for range 5 {
		b.open()
		b.look()
		for range 50 {
			b.step(50)
		}
	}
}

func TestErrors(t *testing.T) { // P1102
	c := small()
	f, m := flashOf(c)
	s, _ := ftl.Format(c, m, none)
	d := row(c, 1)
	for _, n := range []int{-1, 22, 1 << 40} {
		if b, e := s.Read(n); len(b) != 0 || e != api.ErrRange {
			t.Errorf("read %d: %v", n, e)
		}
		is(t, "range", s.Write(ftl.Put{Sector: 1, Data: d}, ftl.Put{Sector: n, Data: d[1:]}), api.ErrRange)
		is(t, "range", s.Atomic(ftl.Put{Sector: n}), api.ErrRange)
		if _, ok := s.Where(n); ok {
			t.Error("no sector")
		}
	}
	is(t, "length", s.Write(ftl.Put{Sector: 1, Data: d[1:]}, ftl.Put{Sector: 99}), api.ErrArg)
	is(t, "twice", s.Atomic(ftl.Put{Sector: 1, Data: d}, ftl.Put{Sector: 1}), api.ErrArg)
	is(t, "five", s.Atomic(ftl.Put{Sector: 1}, ftl.Put{Sector: 2}, ftl.Put{Sector: 3}, ftl.Put{Sector: 4}, ftl.Put{Sector: 5}), api.ErrArg)
	for key, n := range map[int]int{-1: 0, 16: 0, 3: 65} {
		is(t, "record", s.Set(key, make([]byte, n)), api.ErrArg)
	}
	if b, e := s.Read(1); e != api.OK || !bytes.Equal(b, row(c, 0)) {
		t.Error("an error has changed something")
	}
	is(t, "nothing", s.Write(), api.OK)
	is(t, "nothing", s.Atomic(), api.OK)
	is(t, "write", s.Write(ftl.Put{Sector: 1, Data: d}, ftl.Put{Sector: 1}, ftl.Put{Sector: 2, Data: d}, ftl.Put{Sector: 2, Data: row(c, 2)}), api.OK)
	if b, _ := s.Read(1); !bytes.Equal(b, row(c, 0)) {
		t.Error("one behind the other")
	}
	if b, _ := s.Read(2); !bytes.Equal(b, row(c, 2)) {
		t.Error("one behind the other")
	}
	d[0] = 9
	if _, ok := s.Get(16); ok {
		t.Error("no record")
	}
	if n, e := s.Work(-5); n != 0 || e != api.OK {
		t.Error("no work")
	}
	f.Cut()
	is(t, "off", s.Write(ftl.Put{Sector: 1}), api.ErrDown)
	is(t, "off", s.Atomic(ftl.Put{Sector: 1}), api.ErrDown)
	is(t, "off", s.Set(1, nil), api.ErrDown)
	if _, e := s.Read(2); e != api.ErrDown {
		t.Error("read without power")
	}
	if _, e := s.Work(1); e != api.ErrDown {
		t.Error("work without power")
	}
	for _, n := range []int{-1, c.Blocks} {
		if k, one := s.Uses(n); k != 4 || one {
			t.Error("no block")
		}
	}
}

func TestTurnedTwice(t *testing.T) { // P1102
	c := small()
	f, m := flashOf(c)
	s, _ := ftl.Format(c, m, none)
	s.Write(ftl.Put{Sector: 3, Data: row(c, 7)})
	p, ok := s.Where(3)
	if !ok {
		t.Fatal("it has no place")
	}
	f.Flip(p.Block, p.Page, 73*8+1)
	f.Flip(p.Block, p.Page, 73*8+2)
	if b, e := s.Read(3); len(b) != 0 || e != api.ErrBad {
		t.Error(e)
	}
}

func TestPlaces(t *testing.T) { // P1101, P1105: any sectors may be enhanced
	c := small()
	b := newBench(t, c, 9, func(i int) bool { return i%3 == 0 })
	for range 8 {
		for range 60 {
			b.step(0)
		}
		b.look()
		b.open()
		b.look()
	}
	kinds := map[int]int{}
	for n := range c.Blocks {
		k, _ := b.s.Uses(n)
		kinds[k]++
	}
	if kinds[1] == 0 || kinds[2] == 0 || kinds[3] < 3 || kinds[4] != 0 {
		t.Error(kinds)
	}
}

// TestEveryCut cuts a script at each of its steps.
func TestEveryCut(t *testing.T) { // P1103
	c := small()
	for n := 1; ; n++ {
		f, m := flashOf(c)
		s, _ := ftl.Format(c, m, boots(c))
		done := 0
		f.Arm(n)
		for i := 1; i <= 40 && !f.Off(); i++ {
			x := row(c, byte(i))
			e := s.Atomic(ftl.Put{Sector: 0, Data: x}, ftl.Put{Sector: c.User, Data: x}, ftl.Put{Sector: i % 4 * 5, Data: x}, ftl.Put{Sector: 1 + i%4})
			if i%4 == 0 {
				e = s.Atomic(ftl.Put{Sector: 0, Data: x}, ftl.Put{Sector: c.User, Data: x})
			}
			if e == api.OK {
				done = i
			}
		}
		went := f.Off()
		f.On()
		_, m = flashOf(c)
		m, _ = media.New(f, c.Sector+64)
		s, err := ftl.Open(c, m)
		if err != nil {
			t.Fatalf("cut at %d: %v", n, err)
		}
		a, _ := s.Read(0)
		b, _ := s.Read(c.User)
		if !bytes.Equal(a, b) || int(a[0]) != done && int(a[0]) != done+1 {
			t.Fatalf("cut at %d: %d and %d, behind %d", n, a[0], b[0], done)
		}
		if !went {
			break
		}
	}
}

func TestCutsAtOpen(t *testing.T) { // P1103, P1104: cuts that follow one another, at the coming up too
	c := small()
	b := newBench(t, c, 3, boots(c))
	for range 200 {
		b.step(30)
	}
	for i := range 400 {
		b.f.Cut()
		b.f.Arm(1 + i%37)
		if b.open() {
			b.f.Arm(1 + i%11)
			b.write(false, b.some(0))
		}
	}
	b.f.Cut()
	b.open()
	b.look()
}

func TestLife(t *testing.T) { // P1104
	c := small()
	b := newBench(t, c, 4, boots(c))
	for i := range 60000 {
		b.write(false, ftl.Put{Sector: i % 7, Data: row(c, byte(i))})
		if i%900 == 0 {
			b.f.Cut()
			b.open()
		}
		b.life = b.s.Life()
	}
	_, _, _, erases := b.f.Count()
	worn := make([]int, c.Blocks)
	for i := range worn {
		worn[i] = int(erases) / c.Blocks
	}
	if want := wear.Life(worn); b.life < 2 || b.life < want-1 || b.life > want {
		t.Errorf("life %d, of %d erases: %d", b.life, erases, want)
	}
}

func TestWork(t *testing.T) { // P1104
	c := api.Config{Blocks: 58, Pages: 16, Sector: 192, User: 256, Boot: 8, Rpa: 8, Group: 16, Spare: 5}
	b := newBench(t, c, 6, boots(c))
	for i := range 3000 {
		b.write(false, ftl.Put{Sector: (i * 37) % 256, Data: b.bytes()})
	}
	debt := b.s.Debt()
	if debt == 0 {
		t.Skip("nothing is owed")
	}
	for range 200 {
		n, e := b.s.Work(7)
		if n > 7 || e != api.OK {
			t.Fatal(n, e)
		}
		if n == 0 {
			break
		}
	}
	if b.s.Debt() != 0 {
		t.Errorf("debt %d, %d at first", b.s.Debt(), debt)
	}
	b.look()
}
