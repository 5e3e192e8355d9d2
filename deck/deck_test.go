package deck_test

import (
	"bytes"
	"math/rand"
	"testing"

	"locket/api"
	"locket/deck"
	"locket/frame"
	"locket/geom"
	"locket/token"
)

func shape() api.Config {
	return api.Config{Blocks: 70, Pages: 8, Sector: 128, User: 64, Boot: 4, Rpa: 4, Group: 8, Cache: 4, Spare: 3}
}

func decked(t *testing.T) *deck.Deck {
	t.Helper()
	d, e := deck.New(shape())
	if e != api.OK {
		t.Fatal(e)
	}
	return d
}

func ask(index, n int) deck.Move { return deck.Move{Kind: deck.Ask, A: index, N: n} }

func block(x byte) deck.Move {
	return deck.Move{Kind: deck.Block, Bytes: bytes.Repeat([]byte{x}, 128)}
}

func set(n, v int) deck.Move { return ask(api.Switch, 3<<24|n<<16|v<<8) }

// start brings the card to STran.
func start() []deck.Move {
	return []deck.Move{ask(api.GoIdle, 0), ask(api.OpCond, 0), ask(api.AllCid, 0), ask(api.SetAddr, 1<<16), ask(api.Select, 1<<16)}
}

func moves(t *testing.T, what string, d *deck.Deck, m deck.Move, want []byte, e api.Errno) {
	t.Helper()
	if got, err := d.Move(m); !bytes.Equal(got, want) || err != e {
		t.Errorf("%s: %x %v, not %x %v", what, got, err, want, e)
	}
}

func reads(t *testing.T, what string, d *deck.Deck, area, sector int, want byte) {
	t.Helper()
	if b, ok := d.Read(area, sector); !ok || !bytes.Equal(b, bytes.Repeat([]byte{want}, 128)) {
		t.Errorf("%s: %v %v", what, b, ok)
	}
}

func TestMoves(t *testing.T) { // P2401
	wrong := shape()
	wrong.Pages = 5
	if d, e := deck.New(wrong); d != nil || e != api.ErrArg {
		t.Error(e)
	}
	d := decked(t)
	if d.Down() || d.Ups() != 1 || d.Card() == nil || d.Flash() == nil {
		t.Error("a new deck")
	}
	ready := frame.Ready(0x80FF8080)
	b, _ := frame.Encode(frame.Command{Index: api.OpCond})
	moves(t, "go idle", d, ask(api.GoIdle, 0), nil, api.OK)
	moves(t, "send", d, deck.Move{Kind: deck.Send, Bytes: b[:3]}, nil, api.OK)
	moves(t, "send", d, deck.Move{Kind: deck.Send, Bytes: b[3:]}, ready[:], api.OK)
	for _, n := range []int{-1, 64} {
		moves(t, "index", d, ask(n, 0), nil, api.ErrArg)
	}
	d.Play(start()...)
	r := frame.Response(api.WriteOne, 0xD00)
	moves(t, "lowest bits", d, ask(api.WriteOne, 1<<40|3), r[:], api.OK)
	moves(t, "short block", d, deck.Move{Kind: deck.Block, Bytes: make([]byte, 127)}, nil, api.ErrArg)
	moves(t, "block", d, block(7), []byte{token.Good}, api.OK)
	reads(t, "written", d, api.User, 3, 7)
	for _, k := range []int{0, 8, -1} {
		moves(t, "kind", d, deck.Move{Kind: k}, nil, api.ErrArg)
	}
	moves(t, "fail", d, deck.Move{Kind: deck.Fail, A: 70}, nil, api.ErrArg)
	moves(t, "fail", d, deck.Move{Kind: deck.Fail, A: 69}, nil, api.OK)
	moves(t, "flip", d, deck.Move{Kind: deck.Flip, A: 0, B: 7, N: -1}, nil, api.ErrArg)
	moves(t, "flip", d, deck.Move{Kind: deck.Flip, A: 70}, nil, api.ErrArg)
	turned := false
	for n := range 70 {
		_, e := d.Move(deck.Move{Kind: deck.Flip, A: n, B: 0, N: 3})
		turned = turned || e == api.OK
	}
	if !d.Flash().Failed(69) || !turned {
		t.Error("the flash")
	}
	out := d.Play(ask(99, 0), ask(api.Stop, 0), ask(api.ReadOne, 3))
	if len(out) != 3 || len(out[0]) != 0 || len(out[1]) != 0 || len(out[2]) != 6+131 {
		t.Errorf("%x", out)
	}
}

func TestPower(t *testing.T) { // P2401
	d := decked(t)
	d.Play(start()...)
	d.Play(ask(api.WriteOne, 3), block(7), set(api.RCache, 1), ask(api.WriteOne, 4), block(8), ask(api.WriteOne, 3), block(9))
	reads(t, "cached", d, api.User, 3, 9)
	moves(t, "arm", d, deck.Move{Kind: deck.Arm, N: 1}, nil, api.OK)
	moves(t, "up", d, deck.Move{Kind: deck.PowerUp}, nil, api.OK)
	if d.Ups() != 2 || d.Down() {
		t.Error("up")
	}
	reads(t, "cached writes are gone", d, api.User, 3, 7)
	d.Play(start()...)
	moves(t, "arm", d, deck.Move{Kind: deck.Arm, N: 2}, nil, api.OK)
	d.Move(ask(api.WriteOne, 5))
	moves(t, "cut", d, block(5), []byte{token.Fail}, api.OK)
	if !d.Down() {
		t.Error("down")
	}
	moves(t, "down", d, ask(api.Status, 0), nil, api.ErrDown)
	moves(t, "index first", d, ask(64, 0), nil, api.ErrArg)
	moves(t, "down", d, block(5), nil, api.ErrDown)
	moves(t, "down", d, deck.Move{Kind: deck.Send}, nil, api.ErrDown)
	if _, ok := d.Read(api.User, 3); ok {
		t.Error("a read without power")
	}
	d.Flash().On()
	if !d.Down() {
		t.Error("it is up without a power-up")
	}
	d.Flash().Cut()
	moves(t, "up", d, deck.Move{Kind: deck.PowerUp}, nil, api.OK)
	reads(t, "old", d, api.User, 5, 0)
	d.Flash().Cut()
	if !d.Down() {
		t.Error("its flash is off")
	}
	moves(t, "up", d, deck.Move{Kind: deck.PowerUp}, nil, api.OK)
	if d.Ups() != 4 {
		t.Error(d.Ups())
	}
}

// TestArmedUp lets the power go while the card comes up, if that programs anything.
func TestArmedUp(t *testing.T) { // P2401
	d := decked(t)
	d.Play(start()...)
	d.Play(set(api.RGen, 2), set(api.REnh, 0x11), ask(api.WriteOne, 3), block(7), set(api.RDone, 1))
	d.Flash().Cut()
	d.Move(deck.Move{Kind: deck.Arm, N: 1})
	moves(t, "up", d, deck.Move{Kind: deck.PowerUp}, nil, api.ErrDown)
	if !d.Down() || d.Ups() != 1 {
		t.Error("down")
	}
	moves(t, "up", d, deck.Move{Kind: deck.PowerUp}, nil, api.OK)
	reads(t, "kept", d, api.User, 3, 7)
	if d.Card().Regs()[api.RPartOn] != 1 || d.Ups() != 2 {
		t.Error("areas")
	}
}

func TestRead(t *testing.T) { // P2401
	d := decked(t)
	d.Play(start()...)
	d.Play(set(api.RArea, api.Boot1), ask(api.WriteOne, 2), block(3))
	r := rand.New(rand.NewSource(1))
	for range 200 {
		switch r.Intn(5) {
		case 0:
			d.Play(set(api.RArea, r.Intn(3)), set(api.RCache, r.Intn(2)))
		default:
			d.Play(ask(api.WriteOne, r.Intn(4)), block(byte(r.Intn(256))))
		}
		state, regs := d.Card().State(), d.Card().Regs()
		area, sector := int(regs[api.RArea]), r.Intn(4)
		b, ok := d.Read(area, sector)
		d.Read(api.Boot0, 0)
		if d.Card().State() != state || d.Card().Regs() != regs {
			t.Fatal("a read has changed the card")
		}
		a, _ := d.Move(ask(api.ReadOne, sector))
		if !ok || !bytes.Equal(a[6:], token.Lay(b)) {
			t.Fatal("not what a ReadOne tells")
		}
	}
	for _, x := range [][2]int{{api.User, 64}, {api.User, -1}, {api.Rpa, 0}, {api.Gen0, 0}, {8, 0}, {-1, 0}, {api.Boot0, 4}} {
		if b, ok := d.Read(x[0], x[1]); ok || len(b) > 0 {
			t.Errorf("%v", x)
		}
	}
	if geom.Check(shape()) != api.OK {
		t.Error("shape")
	}
}
