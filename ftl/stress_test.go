package ftl_test

import (
	"bytes"
	"math/rand"
	"testing"

	"locket/api"
	"locket/ftl"
	"locket/geom"
	"locket/media"
	"locket/nand"
)

// bench is a store that is used, with what it should tell.
type bench struct {
	t     *testing.T
	c     api.Config
	f     *nand.Flash
	s     *ftl.Store
	r     *rand.Rand
	enh   func(sector int) bool
	data  map[int][]byte // what each sector has, if it is known
	also  map[int][]byte // what it may have, too
	recs  map[int][]byte
	fails int
	life  int
}

func newBench(t *testing.T, c api.Config, seed int64, enh func(sector int) bool) *bench {
	t.Helper()
	if geom.Check(c) != api.OK {
		t.Fatalf("shape %+v", c)
	}
	f, _ := nand.New(c.Blocks, c.Pages, geom.Chunks(c))
	b := &bench{t: t, c: c, f: f, r: rand.New(rand.NewSource(seed)), enh: enh, data: map[int][]byte{}, also: map[int][]byte{}, recs: map[int][]byte{}}
	s, err := ftl.Format(c, b.media(), enh)
	if err != nil {
		t.Fatal(err)
	}
	b.s = s
	return b
}

func (b *bench) media() *media.Media {
	m, _ := media.New(b.f, b.c.Sector+64)
	return m
}

func (b *bench) bytes() []byte {
	d := make([]byte, b.c.Sector)
	b.r.Read(d)
	return d
}

// open lets the power come up, and looks at what Open costs.
func (b *bench) open() bool {
	b.f.On()
	_, _, before, _ := b.f.Count()
	s, err := ftl.Open(b.c, b.media())
	if err != nil {
		if !b.f.Off() {
			b.t.Fatalf("open: %v", err)
		}
		return false
	}
	_, _, after, _ := b.f.Count()
	if most := 2*b.c.Blocks + 4*b.c.Pages + 4*(s.Sectors()/16); int(after-before) > most || s.Loads() != after-before {
		b.t.Fatalf("open reads %d pages (it tells %d), of %d", after-before, s.Loads(), most)
	}
	b.s = s
	if s.Life() < b.life {
		b.t.Fatalf("life falls from %d to %d", b.life, s.Life())
	}
	return true
}

// zero is what a put without data writes.
func (b *bench) want(p ftl.Put) []byte {
	if len(p.Data) == 0 {
		return make([]byte, b.c.Sector)
	}
	return p.Data
}

func (b *bench) now(sector int) []byte {
	if d, ok := b.data[sector]; ok {
		return d
	}
	return make([]byte, b.c.Sector)
}

// write puts a few sectors, and looks at what that costs.
func (b *bench) write(atomic bool, l ...ftl.Put) {
	_, before, _, _ := b.f.Count()
	bad := b.bad()
	e := api.OK
	if atomic {
		e = b.s.Atomic(l...)
	} else {
		e = b.s.Write(l...)
	}
	_, after, _, _ := b.f.Count()
	f := b.bad() - bad
	if most := 8*len(l) + 64 + f*(4*b.c.Pages+64); int(after-before) > most {
		b.t.Fatalf("%d puts program %d pages, of %d (%d blocks failed)", len(l), after-before, most, f)
	}
	if e == api.OK {
		for _, p := range l {
			b.data[p.Sector] = b.want(p)
		}
		return
	}
	if e != api.ErrDown || !b.f.Off() {
		b.t.Fatalf("write: %v", e)
	}
	b.cut(atomic, l)
}

func (b *bench) bad() int {
	n := 0
	for k := range b.c.Blocks {
		if kind, _ := b.s.Uses(k); kind == 4 {
			n++
		}
	}
	return n
}

// cut looks at what a write left that was cut.
func (b *bench) cut(atomic bool, l []ftl.Put) {
	for !b.open() {
		b.f.Cut()
	}
	fresh := 0
	last := map[int]bool{}
	for i, p := range l {
		got, e := b.s.Read(p.Sector)
		if e != api.OK {
			b.t.Fatal(e)
		}
		switch {
		case bytes.Equal(got, b.now(p.Sector)):
		case bytes.Equal(got, b.want(p)):
			fresh++
			last[p.Sector] = true
		default:
			ok := false
			for _, q := range l[:i] {
				ok = ok || q.Sector == p.Sector && bytes.Equal(got, b.want(q))
			}
			for _, q := range l[i:] {
				ok = ok || q.Sector == p.Sector && bytes.Equal(got, b.want(q))
			}
			if !ok {
				b.t.Fatalf("sector %d is neither old nor new", p.Sector)
			}
		}
	}
	if atomic {
		differ := 0
		for _, p := range l {
			if !bytes.Equal(b.now(p.Sector), b.want(p)) {
				differ++
			}
		}
		if fresh != 0 && fresh != differ {
			b.t.Fatalf("%d of %d atomic sectors are new", fresh, differ)
		}
	}
	for _, p := range l {
		b.data[p.Sector], _ = b.s.Read(p.Sector)
	}
}

func (b *bench) set(key int, d []byte) {
	switch e := b.s.Set(key, d); e {
	case api.OK:
		b.recs[key] = d
	case api.ErrDown:
		for !b.open() {
			b.f.Cut()
		}
		got, ok := b.s.Get(key)
		old, had := b.recs[key]
		if bytes.Equal(got, d) && ok {
			b.recs[key] = d
		} else if ok != had || !bytes.Equal(got, old) {
			b.t.Fatalf("record %d is neither old nor new", key)
		}
	default:
		b.t.Fatal(e)
	}
}

// look compares all that can be seen.
func (b *bench) look() {
	b.t.Helper()
	for i := range b.s.Sectors() {
		got, e := b.s.Read(i)
		if e != api.OK || !bytes.Equal(got, b.now(i)) {
			b.t.Fatalf("sector %d: %v", i, e)
		}
		if p, ok := b.s.Where(i); ok {
			kind, one := b.s.Uses(p.Block)
			if kind != 1 && !b.f.Failed(p.Block) || one != b.enh(i) {
				b.t.Fatalf("sector %d lies in block %d: %d %v", i, p.Block, kind, one)
			}
		}
	}
	for key := range 16 {
		got, ok := b.s.Get(key)
		want, there := b.recs[key]
		if ok != there || !bytes.Equal(got, want) {
			b.t.Fatalf("record %d", key)
		}
	}
	if d := b.s.Debt(); d < 0 || d > 16 {
		b.t.Fatalf("debt %d", d)
	}
	if b.s.Life() < b.life {
		b.t.Fatal("life falls")
	}
	b.life = b.s.Life()
}

func (b *bench) some(hot int) ftl.Put {
	p := ftl.Put{Sector: b.r.Intn(b.s.Sectors()), Data: b.bytes()}
	if b.r.Intn(100) < hot {
		p.Sector %= 3
	}
	if b.r.Intn(12) == 0 {
		p.Data = nil
	}
	return p
}

// step does one thing at random.
func (b *bench) step(hot int) {
	switch k := b.r.Intn(100); {
	case k < 60:
		b.write(false, b.some(hot))
	case k < 70:
		var l []ftl.Put
		for range 1 + b.r.Intn(20) {
			l = append(l, b.some(hot))
		}
		b.write(false, l...)
	case k < 85:
		first := b.r.Intn(b.s.Sectors())
		var l []ftl.Put
		for i := range 1 + b.r.Intn(min(4, b.s.Sectors())) {
			p := b.some(0)
			p.Sector = (first + i) % b.s.Sectors()
			l = append(l, p)
		}
		b.write(true, l...)
	case k < 90:
		b.set(b.r.Intn(16), b.bytes()[:b.r.Intn(65)])
	case k < 93:
		first := b.r.Intn(b.s.Sectors())
		var l []ftl.Put
		for i := range b.r.Intn(b.s.Sectors() - first) {
			l = append(l, ftl.Put{Sector: first + i})
		}
		b.write(false, l...)
	case k < 96:
		n := b.r.Intn(70)
		if got, e := b.s.Work(n); e != api.OK && e != api.ErrDown || got > n {
			b.t.Fatal("work", got, e)
		} else if e == api.ErrDown {
			for !b.open() {
				b.f.Cut()
			}
		}
	default:
		p := b.some(0)
		if at, ok := b.s.Where(p.Sector); ok {
			b.turn(at.Block, at.Page)
		}
	}
}

// turn turns one bit of a page, and back when it is read.
func (b *bench) turn(block, page int) {
	bit := b.r.Intn(8 * 73)
	b.f.Flip(block, page, bit)
	if _, e := b.s.Read(0); e != api.OK {
		b.t.Fatal(e)
	}
	b.look()
	b.f.Flip(block, page, bit)
}

func shapes() []api.Config {
	return []api.Config{
		{Blocks: 29, Pages: 4, Sector: 128, User: 4, Boot: 1, Rpa: 1, Group: 1},
		{Blocks: 110, Pages: 4, Sector: 128, User: 96, Boot: 12, Rpa: 5, Group: 8, Spare: 5},
		{Blocks: 58, Pages: 16, Sector: 192, User: 256, Boot: 8, Rpa: 8, Group: 16, Spare: 5},
		{Blocks: 40, Pages: 64, Sector: 448, User: 128, Boot: 4, Rpa: 16, Group: 4, Spare: 3},
		{Blocks: 72, Pages: 6, Sector: 128, User: 60, Boot: 20, Rpa: 3, Group: 10, Spare: 10},
	}
}

func boots(c api.Config) func(int) bool {
	return func(i int) bool { return i >= c.User }
}

func TestStress(t *testing.T) { // P1101 to P1105
	for k, c := range shapes() {
		for seed := range int64(3) {
			b := newBench(t, c, seed, boots(c))
			for i := range 3000 {
				b.step(int(seed) * 40)
				if i%500 == 0 {
					b.look()
				}
				if i%700 == 699 {
					b.f.Cut()
					b.open()
					b.look()
				}
			}
			b.look()
			if t.Failed() {
				t.Fatalf("shape %d seed %d", k, seed)
			}
		}
	}
}

func TestStressCuts(t *testing.T) { // P1103, P1104
	for k, c := range shapes() {
		for seed := range int64(3) {
			b := newBench(t, c, 100+seed, boots(c))
			for i := range 2500 {
				if b.r.Intn(8) == 0 {
					b.f.Arm(1 + b.r.Intn(60))
				}
				b.step(int(seed) * 40)
				if i%250 == 0 {
					b.f.Cut()
					b.open()
					b.look()
				}
			}
			b.f.Cut()
			b.open()
			b.look()
			_ = k
		}
	}
}

func TestStressFails(t *testing.T) { // P1103, P1104
	for _, c := range shapes() {
		for seed := range int64(3) {
			b := newBench(t, c, 200+seed, boots(c))
			for i := range 2500 {
				if b.fails < c.Spare && b.r.Intn(100) == 0 {
					n := b.r.Intn(c.Blocks)
					if !b.f.Failed(n) {
						b.f.Fail(n)
						b.fails++
					}
				}
				if b.r.Intn(20) == 0 {
					b.f.Arm(1 + b.r.Intn(90))
				}
				b.step(int(seed) * 40)
				if i%300 == 299 {
					b.f.Cut()
					b.open()
					b.look()
				}
			}
			b.f.Cut()
			b.open()
			b.look()
		}
	}
}
