package core_test

import (
	"bytes"
	"errors"
	"math/rand"
	"reflect"
	"testing"

	"locket/api"
	"locket/core"
	"locket/frame"
	"locket/ftl"
	"locket/geom"
	"locket/media"
	"locket/model"
	"locket/nand"
	"locket/rpa"
	"locket/token"
)

func shape() api.Config {
	return api.Config{Blocks: 140, Pages: 8, Sector: 128, User: 64, Boot: 4, Rpa: 4, Group: 8, Cache: 6, Spare: 6}
}

func flash(t *testing.T, c api.Config) *nand.Flash {
	t.Helper()
	f, e := core.Flash(c)
	if e != api.OK {
		t.Fatal(e)
	}
	return f
}

func make1(t *testing.T, c api.Config, f *nand.Flash) *core.Card {
	t.Helper()
	k, err := core.Make(c, f)
	if err != nil {
		t.Fatal(err)
	}
	return k
}

func powerUp(t *testing.T, c api.Config, f *nand.Flash) *core.Card {
	t.Helper()
	f.On()
	k, err := core.PowerUp(c, f)
	if err != nil {
		t.Fatal(err)
	}
	if most := 3*c.Blocks + 6*c.Pages + 4*((c.User+2*c.Boot+c.Rpa)/16) + 16 + 2*c.User; int(k.Loads()) > most {
		t.Fatalf("a power-up reads %d pages, of %d", k.Loads(), most)
	}
	return k
}

func do(k model.Card, index int, argument uint32) api.Answer {
	return k.Command(frame.Command{Index: index, Argument: argument}, true)
}

// up brings a card to STran.
func up(k model.Card) {
	do(k, api.GoIdle, 0)
	do(k, api.OpCond, 0)
	do(k, api.AllCid, 0)
	do(k, api.SetAddr, 1<<16)
	do(k, api.Select, 1<<16)
}

func set(k model.Card, n, v int) api.Answer {
	return do(k, api.Switch, uint32(3<<24|n<<16|v<<8))
}

func row(c api.Config, x byte) []byte { return bytes.Repeat([]byte{x}, c.Sector) }

// write writes one sector, and tells the token.
func write(k model.Card, c api.Config, sector int, x byte) byte {
	do(k, api.WriteOne, uint32(sector))
	return k.Data(row(c, x), true)
}

// first is the first byte of a sector, all of whose bytes are the same.
func first(t *testing.T, k model.Card, sector int) byte {
	t.Helper()
	a := do(k, api.ReadOne, uint32(sector))
	if len(a.Blocks) != 1 || bytes.Count(a.Blocks[0], a.Blocks[0][:1]) != len(a.Blocks[0]) {
		t.Fatalf("sector %d: %+v", sector, a.Status)
	}
	return a.Blocks[0][0]
}

func TestMake(t *testing.T) { // P2201
	wrong := shape()
	wrong.Boot = 0
	if f, e := core.Flash(wrong); f != nil || e != api.ErrArg {
		t.Error(e)
	}
	c := shape()
	f := flash(t, c)
	fails := func(what string, want api.Errno, c api.Config, f *nand.Flash, make1 func(api.Config, *nand.Flash) (*core.Card, error)) {
		t.Helper()
		if k, err := make1(c, f); k != nil || !errors.Is(err, want) {
			t.Errorf("%s: %v", what, err)
		}
	}
	other := c
	other.Pages = 16
	wide := c
	wide.Sector = 448
	for _, g := range []func(api.Config, *nand.Flash) (*core.Card, error){core.Make, core.PowerUp} {
		fails("wrong", api.ErrArg, wrong, f, g)
		fails("other", api.ErrArg, other, f, g)
		fails("wide", api.ErrArg, wide, f, g)
	}
	fails("nothing there", api.ErrLost, c, f, core.PowerUp)
	f.Cut()
	fails("off", api.ErrDown, c, f, core.PowerUp)
	fails("off", api.ErrDown, c, f, core.Make)
	f.On()
	k := make1(t, c, f)
	if k.Down() || k.State() != api.SIdle || k.Programs() != 0 || k.Loads() != 0 || k.Ram() < 1 || k.Ram() > geom.Ram(c) || k.Rpa() != (rpa.State{}) {
		t.Error("a new card")
	}
	fails("another card's", api.ErrLost, func() api.Config { x := c; x.Cache = 5; return x }(), f, core.PowerUp)
}

// masked is an answer with nothing said of what chapter 20 leaves open.
func masked(a api.Answer, index int) api.Answer {
	if index == api.SendRegs && len(a.Blocks) == 1 {
		a.Blocks[0][api.RLife], a.Blocks[0][api.RDebt] = 0, 0
	}
	return a
}

// act is a command at random, as a host might send it, or might not.
func act(r *rand.Rand, c api.Config) (int, uint32) {
	sector := uint32(r.Intn(c.User + 2))
	switch r.Intn(26) {
	case 0, 1, 2:
		return api.ReadOne, sector
	case 3, 4:
		return api.SetCount, uint32(r.Intn(8)) | uint32(r.Intn(4))<<30
	case 5, 6:
		return api.ReadMany, sector
	case 7, 8, 9, 10:
		return api.WriteOne, sector
	case 11, 12, 13:
		return api.WriteMany, sector
	case 14:
		regs := []int{api.RArea, api.RCache, api.RFlush, api.RBarrier, api.RWork, api.RGuard, api.RGen, api.REnh, api.RBarrier, api.RCache}
		n, v := regs[r.Intn(len(regs))], r.Intn(3)
		if n == api.REnh {
			v = 1 << (4 + r.Intn(4))
		}
		return api.Switch, uint32(3<<24 | n<<16 | v<<8)
	case 15:
		return api.Switch, uint32(r.Intn(4)<<24 | r.Intn(40)<<16 | r.Intn(3)<<8)
	case 16:
		return []int{api.SetGuard, api.ClrGuard, api.SendGuard, api.ClrGuard}[r.Intn(4)], sector
	case 17:
		return api.EraseFrom, sector
	case 18:
		return api.EraseTo, sector
	case 19:
		return api.Erase, uint32(r.Intn(4))
	case 20:
		return api.SendRegs, 0
	case 21:
		return api.Status, 1 << 16
	case 22:
		return api.Switch, uint32(3<<24 | api.RArea<<16)
	}
	return r.Intn(40), 1 << 16
}

// frameAt makes a frame for the keyed area, mostly a good one.
func frameAt(r *rand.Rand, k model.Card, state rpa.State, c api.Config) []byte {
	f := rpa.Frame{Type: 1 + r.Intn(5), Addr: r.Intn(c.Rpa), Count: 1, Counter: state.Counter}
	r.Read(f.Data[:])
	if r.Intn(6) == 0 {
		f.Counter++
	}
	if state.HasKey {
		f = rpa.Sign(f, state.Key)
	}
	b := rpa.Encode(f)
	return append(b[:], make([]byte, c.Sector-len(b))...)
}

// TestAgainstModel plays both cards alike, with blocks that fail, power-ups and bits that turn.
func TestAgainstModel(t *testing.T) { // P2202, P2204
	for seed := range int64(12) {
		r := rand.New(rand.NewSource(seed))
		c := shape()
		f := flash(t, c)
		k := make1(t, c, f)
		m, _ := model.New(c)
		up(k)
		up(m)
		fails := 0
		for i := range 4000 {
			if r.Intn(100) == 0 && fails < c.Spare {
				if n := r.Intn(c.Blocks); !f.Failed(n) {
					f.Fail(n)
					fails++
				}
			}
			if r.Intn(150) == 0 {
				set(k, api.RFlush, 1)
				set(m, api.RFlush, 1)
				if r.Intn(4) == 0 {
					set(k, api.RDone, 1)
					set(m, api.RDone, 1)
				}
				f.Cut()
				k = powerUp(t, c, f)
				m.PowerUp(func(int) []byte { return nil })
				up(k)
				up(m)
			}
			same(t, r, c, k, m, i)
			if k.Ram() > geom.Ram(c) {
				t.Fatal("too much memory")
			}
		}
		lies(t, c, k, m)
	}
}

// same does one thing with both.
func same(t *testing.T, r *rand.Rand, c api.Config, k *core.Card, m *model.Abstract, i int) {
	t.Helper()
	if k.State() == api.SRecv && r.Intn(10) > 0 {
		b := make([]byte, c.Sector)
		r.Read(b)
		if m.Regs()[api.RArea] == api.Rpa {
			b = frameAt(r, k, k.Rpa(), c)
		}
		if r.Intn(4) == 0 {
			b[0], b[1] = 1, 0
			copy(b[8:], []byte{0, 0, 0, byte(r.Intn(60)), 0, byte(1 + r.Intn(4)), 0, 0})
		}
		good := r.Intn(20) > 0
		if x, y := k.Data(b, good), m.Data(b, good); x != y {
			t.Fatalf("step %d: token %x, not %x", i, x, y)
		}
	} else {
		n, arg := act(r, c)
		good := r.Intn(30) > 0
		cmd := frame.Command{Index: n, Argument: arg}
		if x, y := masked(k.Command(cmd, good), n), masked(m.Command(cmd, good), n); !reflect.DeepEqual(x, y) {
			t.Fatalf("step %d: %v: %x, not %x", i, cmd, x.Status, y.Status)
		}
		if n == api.GoIdle && good || k.State() == api.SStand {
			up(k)
			up(m)
		}
	}
	if k.State() != m.State() || k.Rpa() != m.Rpa() {
		t.Fatalf("step %d: state", i)
	}
}

// lies looks at where sectors lie.
func lies(t *testing.T, c api.Config, k *core.Card, m *model.Abstract) {
	t.Helper()
	kinds := map[int]int{}
	for n := range c.Blocks {
		kind, _ := k.Uses(n)
		kinds[kind]++
	}
	if kinds[1] == 0 || kinds[3] < 3 {
		t.Error(kinds)
	}
	if x, y := k.Regs(), m.Regs(); x[api.RPartOn] != y[api.RPartOn] || x[api.RDebt] > 16 || x[api.RLife] < 1 {
		t.Error("registers")
	}
}

func TestEnhanced(t *testing.T) { // P2204
	c := shape()
	for cut := 0; ; cut++ {
		f := flash(t, c)
		k := make1(t, c, f)
		up(k)
		for i := range 64 {
			write(k, c, i, byte(i+1))
		}
		set(k, api.RGen, 2)
		set(k, api.RGen+2, 3)
		set(k, api.REnh, 0x41)
		if a := set(k, api.RDone, 1); a.Status&api.BSwitch != 0 {
			t.Fatal("it does not fit")
		}
		f.Cut()
		f.On()
		if cut > 0 {
			f.Cut()
			f.Arm(cut * 7)
			f.On()
			_, err := core.PowerUp(c, f)
			if err == nil && !f.Off() {
				break
			}
		}
		k = powerUp(t, c, f)
		up(k)
		if k.Regs()[api.RPartOn] != 1 {
			t.Fatal("areas are not as set")
		}
		for i := range 24 {
			if first(t, k, i) != byte(i+1) {
				t.Fatalf("sector %d", i)
			}
		}
		set(k, api.RArea, api.Gen0+2)
		for i := range 24 {
			if first(t, k, i) != byte(i+41) {
				t.Fatalf("sector %d", i)
			}
			write(k, c, i, byte(i))
		}
		inOneBit(t, c, f)
	}
}

// inOneBit looks at where the sectors of enhanced areas lie.
func inOneBit(t *testing.T, c api.Config, f *nand.Flash) {
	t.Helper()
	f.Cut()
	f.On()
	m, _ := media.New(f, c.Sector+64)
	s, err := ftl.Open(c, m)
	if err != nil {
		t.Fatal(err)
	}
	for place := range s.Sectors() {
		// The user's area has 24 sectors, then come two general ones: 16 that are enhanced not, 24 that are.
		p, ok := s.Where(place)
		if _, one := s.Uses(p.Block); ok && one != (place < 24 || place >= 40) {
			t.Fatalf("place %d lies in block %d: %v", place, p.Block, one)
		}
	}
}

// TestCuts cuts a script of writes at each of its steps.
func TestCuts(t *testing.T) { // P2202, P2203
	c := shape()
	for n := 1; ; n += 3 {
		f := flash(t, c)
		k := make1(t, c, f)
		up(k)
		f.Arm(n)
		done := byte(0)
		for x := byte(1); x < 12 && !k.Down(); x++ {
			if write(k, c, 3, x) == token.Good {
				done = x
			}
		}
		went := k.Down()
		if went {
			if a := do(k, api.Status, 1<<16); !a.None || a.Status != 0 || k.Data(row(c, 1), true) != token.Fail {
				t.Fatal("a card without power answers")
			}
		}
		f.On()
		if went && !k.Down() {
			t.Fatal("it is up without a power-up")
		}
		k = powerUp(t, c, f)
		up(k)
		if got := first(t, k, 3); got != done && got != done+1 {
			t.Fatalf("cut at %d: %d, behind %d", n, got, done)
		}
		if !went {
			break
		}
	}
}

// TestBarrier cuts a flush at each of its steps: what is behind a barrier is there only with all ahead of it.
func TestBarrier(t *testing.T) { // P2203
	c := shape()
	for n := 1; ; n++ {
		f := flash(t, c)
		k := make1(t, c, f)
		up(k)
		set(k, api.RCache, 1)
		write(k, c, 1, 1)
		write(k, c, 2, 1)
		set(k, api.RBarrier, 1)
		write(k, c, 1, 2)
		write(k, c, 3, 2)
		f.Arm(n)
		set(k, api.RFlush, 1)
		went := k.Down()
		k = powerUp(t, c, f)
		up(k)
		a, b, d := first(t, k, 1), first(t, k, 2), first(t, k, 3)
		if (a == 2 || d == 2) && b != 1 || d == 2 && a == 0 {
			t.Fatalf("cut at %d: %d %d %d", n, a, b, d)
		}
		if !went {
			if a != 2 || b != 1 || d != 2 {
				t.Fatal("a flush that was answered lasts")
			}
			break
		}
	}
}

// TestKeyedCut cuts a keyed write at each of its steps: counter and data go together.
func TestKeyedCut(t *testing.T) { // P2203
	c := shape()
	key := [32]byte{9}
	for n := 1; ; n++ {
		f := flash(t, c)
		k := make1(t, c, f)
		up(k)
		set(k, api.RArea, api.Rpa)
		send := func(fr rpa.Frame) {
			b := rpa.Encode(fr)
			do(k, api.WriteOne, 0)
			k.Data(append(b[:], make([]byte, c.Sector-128)...), true)
		}
		f.Arm(n)
		send(rpa.Frame{Type: rpa.Key, Data: [64]byte{9}})
		for i := range uint32(3) {
			send(rpa.Sign(rpa.Frame{Type: rpa.Write, Counter: i, Addr: int(2 * (i % 2)), Count: 1, Data: [64]byte{byte(i + 1)}}, key))
		}
		went := k.Down()
		k = powerUp(t, c, f)
		s := k.Rpa()
		if s.HasKey != (s.Key == key) || !s.HasKey && s.Counter != 0 {
			t.Fatalf("cut at %d: %+v", n, s)
		}
		up(k)
		set(k, api.RArea, api.Rpa)
		for addr, want := range [][]byte{{0, 1, 1, 3}, 2: {0, 0, 2, 2}} {
			if want == nil || !s.HasKey {
				continue
			}
			send(rpa.Frame{Type: rpa.Read, Addr: addr})
			fr, _ := rpa.Decode(do(k, api.ReadOne, 0).Blocks[0])
			if fr.Data[0] != want[s.Counter] || fr.Result != 0 {
				t.Fatalf("cut at %d: address %d has %d, counter %d", n, addr, fr.Data[0], s.Counter)
			}
		}
		if !went {
			break
		}
	}
}

// TestSwitchCut cuts what sets areas up: it is set as a whole or not.
func TestSwitchCut(t *testing.T) { // P2203, P2205
	c := shape()
	for n := 1; ; n++ {
		f := flash(t, c)
		k := make1(t, c, f)
		up(k)
		set(k, api.RGen, 3)
		set(k, api.RGuard, 2)
		f.Arm(n)
		a := set(k, api.RDone, 1)
		b := do(k, api.SetGuard, 9)
		d := set(k, api.RBoot, 1)
		went := k.Down()
		k = powerUp(t, c, f)
		up(k)
		g := k.Regs()
		if g[api.RGen] != 3 || g[api.RDone] != g[api.RPartOn] || !a.None && g[api.RDone] != 1 || !d.None && g[api.RBoot] != 1 {
			t.Fatalf("cut at %d: %v", n, g)
		}
		set(k, api.RGuard, 0)
		if got := write(k, c, 8, 1); !b.None && got != token.Fail {
			t.Fatalf("cut at %d: a guard for good is gone", n)
		}
		if !went {
			break
		}
	}
}

// TestBounds looks at how many pages commands program, while blocks fail.
func TestBounds(t *testing.T) { // P2204
	for _, c := range []api.Config{shape(), {Blocks: 35, Pages: 4, Sector: 128, User: 16, Boot: 1, Rpa: 1, Group: 1, Cache: 64, Spare: 2}, {Blocks: 62, Pages: 32, Sector: 448, User: 640, Boot: 8, Rpa: 8, Group: 20, Cache: 16, Spare: 3}} {
		r := rand.New(rand.NewSource(1))
		f := flash(t, c)
		k := make1(t, c, f)
		up(k)
		fails := 0
		for i := range 4000 {
			if r.Intn(200) == 0 && fails < c.Spare {
				if n := r.Intn(c.Blocks); !f.Failed(n) {
					f.Fail(n)
					fails++
				}
			}
			before, was := k.Programs(), bad(k, c)
			n, sectors, flushed := 0, 0, 0
			switch r.Intn(7) {
			case 0:
				from := r.Intn(c.User)
				to := from + r.Intn(c.User-from)
				do(k, api.EraseFrom, uint32(from))
				do(k, api.EraseTo, uint32(to))
				do(k, api.Erase, 0)
				sectors = to - from + 1
			case 1:
				set(k, api.RWork, 1)
			case 2:
				set(k, api.RCache, r.Intn(2))
				flushed = c.Cache
			default:
				n = 1 + r.Intn(min(64, c.User))
				do(k, api.SetCount, uint32(n))
				do(k, api.WriteMany, uint32(r.Intn(c.User-n+1)))
				for range n {
					if k.Data(row(c, byte(i)), true) != token.Good {
						t.Fatal("token")
					}
				}
			}
			most := 12*(n+flushed) + sectors + (1+bad(k, c)-was)*(4*c.Pages+96)
			if int(k.Programs()-before) > most {
				t.Fatalf("%d blocks, %d sectors: %d pages, of %d", n, sectors, k.Programs()-before, most)
			}
		}
	}
}

// bad is how many blocks are known to be so.
func bad(k *core.Card, c api.Config) int {
	out := 0
	for n := range c.Blocks {
		if kind, _ := k.Uses(n); kind == 4 {
			out++
		}
	}
	return out
}

// TestLoads looks at how many pages power-ups read, those too at which enhanced areas come up on a card that is full.
func TestLoads(t *testing.T) { // P2204
	for seed := range int64(25) {
		r := rand.New(rand.NewSource(seed))
		c := api.Config{Pages: 4 + 2*r.Intn(20), Sector: 128 + 64*r.Intn(6), Boot: 1 + r.Intn(8), Rpa: 1 + r.Intn(8), Group: 1 + r.Intn(30), Spare: r.Intn(5)}
		groups := 2 + r.Intn(30)
		general := 1 + r.Intn(groups-1)
		c.User = c.Group * groups
		enhanced, bits := general*c.Group, 1<<api.Gen0
		if r.Intn(2) == 0 {
			enhanced, bits = c.User, bits|1
		}
		c.Blocks = max(geom.Need(c, enhanced), geom.Need(c, 0))
		if geom.Check(c) != api.OK {
			continue
		}
		f := flash(t, c)
		k := make1(t, c, f)
		up(k)
		for i := range c.User * (1 + 4*r.Intn(3)) {
			x := i
			if i >= c.User {
				x = r.Intn(c.User)
			}
			write(k, c, x, byte(x))
		}
		set(k, api.RGen, general)
		set(k, api.REnh, bits)
		if a := set(k, api.RDone, 1); a.Status&api.BSwitch != 0 {
			t.Fatal("it does not fit")
		}
		for _, more := range []int{2 * enhanced, 0} {
			f.Cut()
			f.On()
			k, err := core.PowerUp(c, f)
			if err != nil {
				t.Fatal(err)
			}
			if most := 3*c.Blocks + 6*c.Pages + 4*((c.User+2*c.Boot+c.Rpa)/16) + 16 + more; int(k.Loads()) > most {
				t.Fatalf("%+v: %d pages, of %d", c, k.Loads(), most)
			}
			up(k)
			for i := range c.User - general*c.Group {
				if first(t, k, i) != byte(i) {
					t.Fatalf("sector %d", i)
				}
			}
		}
	}
}
