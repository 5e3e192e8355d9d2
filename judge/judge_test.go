package judge_test

import (
	"bytes"
	"errors"
	"math/rand"
	"testing"

	"locket/api"
	"locket/areas"
	"locket/deck"
	"locket/frame"
	"locket/geom"
	"locket/judge"
	"locket/model"
	"locket/rpa"
	"locket/token"
	"locket/wire"
)

func shape() api.Config {
	return api.Config{Blocks: 70, Pages: 8, Sector: 128, User: 64, Boot: 4, Rpa: 4, Group: 8, Cache: 6, Spare: 5}
}

func judged(t *testing.T) *judge.Judge {
	t.Helper()
	j, e := judge.New(shape())
	if e != api.OK {
		t.Fatal(e)
	}
	return j
}

func ask(index int, argument uint32) []byte {
	b, _ := frame.Encode(frame.Command{Index: index, Argument: argument})
	return b[:]
}

func set(n, v int) []byte { return ask(api.Switch, uint32(3<<24|n<<16|v<<8)) }

func row(x byte) []byte { return bytes.Repeat([]byte{x}, 128) }

func write(sector int, x byte) []byte {
	return append(ask(api.WriteOne, uint32(sector)), token.Lay(row(x))...)
}

func joined(l ...[]byte) []byte { return bytes.Join(l, nil) }

func start() []byte {
	return joined(ask(api.GoIdle, 0), ask(api.OpCond, 0), ask(api.AllCid, 0), ask(api.SetAddr, 1<<16), ask(api.Select, 1<<16))
}

// game is a judge, and an abstract card that plays as a right card would.
type game struct {
	t *testing.T
	j *judge.Judge
	m *model.Abstract
	l *wire.Line
}

func played(t *testing.T) *game {
	m, _ := model.New(shape())
	g := &game{t, judged(t), m, wire.New(m, 128)}
	g.send(start())
	return g
}

// send plays bytes rightly.
func (g *game) send(b []byte) []byte {
	g.t.Helper()
	a := g.l.Send(b)
	if err := g.j.Send(b, a); err != nil {
		g.t.Errorf("a right answer: %v", err)
	}
	return a
}

// wrong plays bytes with an answer that is changed, and looks for the verdict.
func (g *game) wrong(what string, b []byte, at int, change func(a []byte) []byte) {
	g.t.Helper()
	a := change(g.l.Send(b))
	err := g.j.Send(b, a)
	var w *judge.Wrong
	if !errors.As(err, &w) && at >= 0 || at < 0 && err != nil || at >= 0 && *w != (judge.Wrong{At: at, Want: "answer"}) {
		g.t.Errorf("%s: %v, not %d", what, err, at)
	}
}

func (g *game) up(what string, right bool, read func(place int) []byte) {
	g.t.Helper()
	err := g.j.PowerUp(read)
	g.m.PowerUp(read)
	if (err == nil) != right {
		g.t.Errorf("%s: %v", what, err)
	}
	var w *judge.Wrong
	if errors.As(err, &w) && (w.Want != "sectors" || w.At != g.j.Sent()) {
		g.t.Errorf("%s: %v", what, err)
	}
	for p := range 64 {
		if b := read(p); len(b) > 0 && !bytes.Equal(g.j.Model().Sector(p), b) {
			g.t.Errorf("%s: the abstract card has not what read tells", what)
		}
	}
}

func flip(at int) func([]byte) []byte {
	return func(a []byte) []byte {
		a[at] ^= 1
		return a
	}
}

func TestNew(t *testing.T) { // P2501
	wrong := shape()
	wrong.User = 63
	if j, e := judge.New(wrong); j != nil || e != api.ErrArg {
		t.Error(e)
	}
	if s := (&judge.Wrong{At: 12, Want: "answer"}).Error(); s != "want answer at 12" {
		t.Error(s)
	}
	big := api.Config{Blocks: 140, Pages: 256, Sector: 128, User: 1 << 14, Boot: 200, Rpa: 256, Group: 512}
	if j, e := judge.New(big); e != api.OK || j.PowerUp(func(int) []byte { return row(0) }) != nil {
		t.Error("more sectors than chapter 21 has places", e, geom.Need(big, 0))
	}
}

func TestSend(t *testing.T) { // P2501
	g := played(t)
	g.send(joined(write(3, 7), ask(api.ReadOne, 3)))
	g.wrong("a byte", ask(api.ReadOne, 3), 50, flip(50))
	g.wrong("the sum", ask(api.ReadOne, 3), 136, flip(136))
	g.wrong("short", ask(api.ReadOne, 3), 100, func(a []byte) []byte { return a[:100] })
	g.wrong("none", ask(api.ReadOne, 3), 0, func(a []byte) []byte { return nil })
	g.wrong("long", ask(api.ReadOne, 3), 137, func(a []byte) []byte { return append(a, 1) })
	g.wrong("something", nil, 0, func(a []byte) []byte { return []byte{1} })
	m, _ := model.New(shape())
	l, _ := model.New(shape())
	if b := append(start(), write(1, 1)...); !bytes.Equal(judge.Expect(m, 128, b), wire.New(l, 128).Send(b)) || !bytes.Equal(m.Sector(1), row(1)) {
		t.Error("Expect")
	}
	n := g.j.Sent()
	half := ask(api.ReadOne, 3)
	g.send(half[:2])
	g.send(half[2:])
	if g.j.Sent() != n+6 || !bytes.Equal(g.j.Model().Sector(3), row(7)) {
		t.Error("what was sent")
	}
}

func TestRegisters(t *testing.T) { // P2501
	g := played(t)
	said := func(n int, v byte) func([]byte) []byte {
		return func(a []byte) []byte {
			b := a[7:135]
			b[n] = v
			return append(a[:6:6], token.Lay(bytes.Clone(b))...)
		}
	}
	regs := ask(api.SendRegs, 0)
	g.wrong("life", regs, -1, said(api.RLife, 200))
	g.wrong("debt", regs, -1, said(api.RDebt, 16))
	g.wrong("too much debt", regs, 7+api.RDebt, said(api.RDebt, 17))
	g.wrong("another", regs, 7+api.RPartOn, said(api.RPartOn, 1))
	g.wrong("its sum", regs, 135, func(a []byte) []byte {
		a[7+api.RLife] = 5
		return a
	})
}

func TestLoose(t *testing.T) { // P2501
	g := played(t)
	discard := func(from, to int) []byte {
		return joined(ask(api.EraseFrom, uint32(from)), ask(api.EraseTo, uint32(to)), ask(api.Erase, 3))
	}
	g.send(joined(write(3, 7), write(4, 8), set(api.RCache, 1), write(5, 9), discard(3, 5)))
	for i, old := range []byte{7, 8, 9} {
		read := ask(api.ReadOne, uint32(3+i))
		tells := func(b []byte) func([]byte) []byte {
			return func(a []byte) []byte { return append(a[:6:6], token.Lay(b)...) }
		}
		g.send(read)
		g.wrong("old bytes", read, -1, tells(row(old)))
		mixed := row(old)
		mixed[100] = 0
		g.wrong("neither", read, 6+1+100, tells(mixed))
		g.wrong("another's", read, 6+1, tells(row(77)))
	}
	g.send(joined(discard(3, 3), ask(api.ReadOne, 3)))
	g.wrong("old still", ask(api.ReadOne, 3), -1, func(a []byte) []byte { return append(a[:6:6], token.Lay(row(7))...) })
	g.send(write(3, 1))
	g.wrong("loose no more", ask(api.ReadOne, 3), 7, func(a []byte) []byte { return append(a[:6:6], token.Lay(row(7))...) })
}

// holds is a read of sectors by their first bytes; the others are all 0, the keyed area is passed over.
func holds(m map[int]byte) func(int) []byte {
	return func(p int) []byte {
		if p >= 72 {
			return nil
		}
		return row(m[p])
	}
}

func TestCut(t *testing.T) { // P2502
	g := played(t)
	g.send(write(1, 1))
	g.send(write(2, 2))
	g.j.Cut()
	g.up("the last Send is in flight", true, holds(map[int]byte{1: 1}))
	g.send(joined(start(), write(1, 3)))
	g.send(nil)
	g.j.Cut()
	g.up("what lasts is gone", false, holds(map[int]byte{1: 1}))
	g.send(start())
	g.send(write(1, 4))
	g.send(nil)
	g.up("it goes on with what it was told", true, holds(map[int]byte{1: 4}))
	g.send(joined(start(), write(5, 5)))
	g.send(joined(ask(api.EraseFrom, 5), ask(api.EraseTo, 5), ask(api.Erase, 3)))
	g.send(nil)
	g.j.Cut()
	g.up("loose", true, holds(map[int]byte{1: 4, 5: 5}))
	g.send(start())
	g.send(nil)
	g.j.Cut()
	g.up("settled", false, holds(map[int]byte{1: 4}))
}

func TestCached(t *testing.T) { // P2502
	for _, x := range []struct {
		right bool
		m     map[int]byte
	}{
		{true, map[int]byte{}}, {true, map[int]byte{1: 1}}, {true, map[int]byte{2: 1}}, {true, map[int]byte{1: 1, 2: 1}},
		{true, map[int]byte{1: 2, 2: 1}}, {true, map[int]byte{1: 1, 2: 1, 3: 2}}, {true, map[int]byte{1: 2, 2: 1, 3: 2}},
		{false, map[int]byte{1: 2}}, {false, map[int]byte{3: 2}}, {false, map[int]byte{1: 1, 3: 2}}, {false, map[int]byte{2: 1, 3: 2}}, {false, map[int]byte{4: 1}},
	} {
		for _, flush := range []bool{false, true} {
			g := played(t)
			g.send(set(api.RCache, 1))
			g.send(joined(write(1, 1), write(2, 1)))
			g.send(set(api.RBarrier, 1))
			g.send(joined(write(1, 2), write(3, 2)))
			g.send(nil)
			if flush {
				g.send(set(api.RFlush, 1))
			}
			g.j.Cut()
			g.up("cached", x.right, holds(x.m))
		}
	}
	g := played(t)
	g.send(set(api.RCache, 1))
	g.send(write(1, 1))
	g.send(joined(set(api.RFlush, 1)))
	g.send(nil)
	g.j.Cut()
	g.up("flushed", false, holds(nil))
}

func TestDoubt(t *testing.T) { // P2502
	key := rpa.Encode(rpa.Frame{Type: rpa.Key, Data: [64]byte{1}})
	keyed := append(ask(api.WriteOne, 0), token.Lay(append(key[:], make([]byte, 0)...))...)
	for i, b := range [][]byte{set(api.RBoot, 1), ask(api.SetGuard, 0), ask(api.ClrGuard, 0), keyed} {
		for _, last := range []bool{false, true} {
			g := played(t)
			if i == 3 {
				g.send(set(api.RArea, api.Rpa))
				g.send(nil)
			}
			g.send(b)
			if !last {
				g.send(nil)
			}
			g.j.Cut()
			g.up("a cut", true, holds(nil))
			at := 3
			if last {
				at = -1
			}
			g.wrong("behind it", ask(api.OpCond, 0), at, func(a []byte) []byte { return []byte{0x3F, 0x80, 0xFF, 9} })
		}
	}
}

// TestDeck plays a card on flash against the judge, with cuts, blocks that fail and bits that turn. Registers are mostly set while nothing is armed: behind a Send that was cut with a Switch in it, all counts as right, and a game is over.
func TestDeck(t *testing.T) { // T1, T2
	cuts := 0
	for seed := range int64(120) {
		r := rand.New(rand.NewSource(seed))
		d, e := deck.New(shape())
		if e != api.OK {
			t.Fatal(e)
		}
		j := judged(t)
		table := setUp(t, d, j, seed%3 == 0)
		fails := 0
		for i, over := 0, false; i < 200 && !over; i++ {
			if r.Intn(40) == 0 && fails < shape().Spare {
				if n := r.Intn(shape().Blocks); !d.Flash().Failed(n) {
					d.Flash().Fail(n)
					fails++
				}
			}
			settings := r.Intn(3) == 0
			b := script(r, j.Model(), settings)
			if !settings && r.Intn(3) == 0 || r.Intn(50) == 0 {
				d.Flash().Arm(1 + r.Intn(80))
				over = settings
			}
			a, e := d.Move(deck.Move{Kind: deck.Send, Bytes: b})
			if e != api.OK {
				t.Fatal(e)
			}
			err := j.Send(b, a)
			if d.Down() || r.Intn(30) == 0 {
				over = over && d.Down()
				cuts++
				j.Cut()
				for {
					if _, e := d.Move(deck.Move{Kind: deck.PowerUp}); e == api.OK {
						break
					} else if e != api.ErrDown {
						t.Fatalf("seed %d, %d: %v", seed, i, e)
					}
				}
				err = j.PowerUp(func(place int) []byte { return sector(d, table, place) })
			}
			if err != nil {
				t.Fatalf("seed %d, %d: %v", seed, i, err)
			}
		}
	}
	t.Log(cuts, "cuts")
}

// setUp sets general areas up, one of them enhanced, and lets the power come up anew.
func setUp(t *testing.T, d *deck.Deck, j *judge.Judge, general bool) *areas.Table {
	t.Helper()
	setting := areas.Setting{}
	if general {
		setting = areas.Setting{Sizes: [4]int{2, 0, 1, 0}, Enhanced: 0x10, Done: true}
		b := joined(start(), write(60, 5), set(api.RGen, 2), set(api.RGen+2, 1), set(api.REnh, 0x10), set(api.RDone, 1))
		a, _ := d.Move(deck.Move{Kind: deck.Send, Bytes: b})
		if err := j.Send(b, a); err != nil {
			t.Fatal(err)
		}
	}
	table, e := areas.New(shape(), setting)
	if e != api.OK {
		t.Fatal(e)
	}
	if _, e := d.Move(deck.Move{Kind: deck.PowerUp}); e != api.OK {
		t.Fatal(e)
	}
	if err := j.PowerUp(func(place int) []byte { return sector(d, table, place) }); err != nil {
		t.Fatal(err)
	}
	return table
}

// sector is what a deck holds at a place.
func sector(d *deck.Deck, table *areas.Table, place int) []byte {
	area, n, _ := table.Of(place)
	b, _ := d.Read(area, n)
	return b
}

// script is some commands at random.
func script(r *rand.Rand, m *model.Abstract, settings bool) []byte {
	var b []byte
	if m.State() < api.STran {
		b = start()
	}
	sector := func() uint32 { return uint32(r.Intn(12)) * uint32(1+r.Intn(5)) }
	if settings {
		for range 1 + r.Intn(3) {
			if r.Intn(6) == 0 {
				b = append(b, joined(set(api.RArea, api.Rpa), keyed(r, m), ask(api.ReadOne, 0), set(api.RArea, 0))...)
			}
			if r.Intn(6) == 0 {
				b = append(b, ask([]int{api.SetGuard, api.ClrGuard, api.SendGuard}[r.Intn(3)], sector())...)
			}
			b = append(b, [][]byte{set(api.RCache, 1), set(api.RCache, 1), set(api.RCache, 0), set(api.RBarrier, 1), set(api.RBarrier, 1), set(api.RFlush, 1), set(api.RWork, 1), set(api.RArea, []int{0, 1, 2, 4, 6}[r.Intn(5)]), set(api.RArea, 0)}[r.Intn(9)]...)
		}
		return b
	}
	for range 1 + r.Intn(8) {
		switch r.Intn(12) {
		case 0:
			b = append(b, ask(api.ReadOne, sector())...)
		case 1:
			b = append(b, joined(ask(api.EraseFrom, sector()), ask(api.EraseTo, sector()+5), ask(api.Erase, uint32(3*r.Intn(2))))...)
		case 5:
			n := 1 + r.Intn(9)
			b = append(b, joined(ask(api.SetCount, uint32(n|r.Intn(2)<<31)), ask(api.WriteMany, sector()))...)
			for range n {
				b = append(b, token.Lay(row(byte(1+r.Intn(255))))...)
			}
		case 6:
			b = append(b, ask(api.SendRegs, 0)...)
		case 7:
			b = append(b, byte(r.Intn(256)))
		default:
			b = append(b, write(int(sector()), byte(1+r.Intn(255)))...)
		}
	}
	return b
}

// keyed is a frame for the keyed area, mostly a good one.
func keyed(r *rand.Rand, m *model.Abstract) []byte {
	f := rpa.Frame{Type: 1 + r.Intn(5), Addr: r.Intn(4), Count: 1, Counter: m.Rpa().Counter}
	r.Read(f.Data[:])
	if m.Rpa().HasKey {
		f = rpa.Sign(f, m.Rpa().Key)
	}
	b := rpa.Encode(f)
	return append(ask(api.WriteOne, 0), token.Lay(b[:])...)
}
