package wire_test

import (
	"bytes"
	"math"
	"math/rand"
	"testing"

	"locket/api"
	"locket/frame"
	"locket/model"
	"locket/token"
	"locket/wire"
)

func shape() api.Config {
	return api.Config{Blocks: 120, Pages: 16, Sector: 128, User: 64, Boot: 4, Rpa: 4, Group: 8, Cache: 3, Spare: 4}
}

func line(t *testing.T) (*wire.Line, *model.Abstract) {
	t.Helper()
	m, e := model.New(shape())
	if e != api.OK {
		t.Fatal(e)
	}
	return wire.New(m, 128), m
}

func ask(index int, argument uint32) []byte {
	b, _ := frame.Encode(frame.Command{Index: index, Argument: argument})
	return b[:]
}

func joined(l ...[]byte) []byte { return bytes.Join(l, nil) }

func row(x byte) []byte { return bytes.Repeat([]byte{x}, 128) }

// start is what brings a card to STran, and what it answers.
func start() (b, answer []byte) {
	b = joined(ask(api.GoIdle, 0), ask(api.OpCond, 0), ask(api.AllCid, 0), ask(api.SetAddr, 1<<16), ask(api.Select, 1<<16))
	ready, long := frame.Ready(0x80FF8080), frame.Long(model.Cid())
	addr, sel := frame.Response(api.SetAddr, 0x700), frame.Response(api.Select, 0x900)
	return b, joined(ready[:], long[:], addr[:], sel[:])
}

func sends(t *testing.T, what string, l *wire.Line, b, want []byte) {
	t.Helper()
	if got := l.Send(b); !bytes.Equal(got, want) {
		t.Errorf("%s: %x, not %x", what, got, want)
	}
}

func TestFrames(t *testing.T) { // P2301
	l, m := line(t)
	b, want := start()
	sends(t, "start", l, b, want)
	r := frame.Response(api.ReadOne, 0x900)
	sends(t, "read", l, ask(api.ReadOne, 3), joined(r[:], token.Lay(row(0))))
	sends(t, "nothing", l, nil, nil)
	wrong := ask(api.ReadOne, 3)
	wrong[2] ^= 4
	sends(t, "sum", l, wrong, nil)
	r = frame.Response(api.Status, 0x900|api.BCrc)
	sends(t, "status", l, ask(api.Status, 1<<16), r[:])
	form := ask(api.ReadOne, 3)
	form[5] ^= 1
	r = frame.Response(api.Status, 0x900)
	sends(t, "form", l, joined([]byte{0, 0xFE, 0xFF}, form, ask(api.Status, 1<<16)), r[:])
	if l.Errors() != 3+6 || l.Waiting() != 0 {
		t.Errorf("%d errors, %d wait", l.Errors(), l.Waiting())
	}
	sends(t, "half", l, ask(api.Status, 1<<16)[:4], nil)
	if l.Waiting() != 4 {
		t.Error(l.Waiting())
	}
	l.Reset()
	if l.Waiting() != 0 || l.Errors() != 0 || m.State() != api.STran {
		t.Error("Reset")
	}
}

func TestBlocks(t *testing.T) { // P2301
	l, m := line(t)
	b, _ := start()
	l.Send(b)
	w, s := frame.Response(api.WriteMany, 0xD00), frame.Response(api.SetCount, 0x900)
	sends(t, "count", l, joined(ask(api.SetCount, 3), ask(api.WriteMany, 0)), joined(s[:], w[:]))
	sends(t, "block", l, token.Lay(row(7)), []byte{token.Good})
	r := frame.Response(api.Status, 0xD00)
	sends(t, "dropped ahead of a block", l, joined([]byte{1, 2, 0x80}, token.Lay(row(8)), []byte{3}, ask(api.Status, 1<<16)), joined([]byte{token.Good}, r[:]))
	if l.Errors() != 4 {
		t.Error(l.Errors())
	}
	laid := token.Lay(row(9))
	sends(t, "in pieces", l, laid[:100], nil)
	laid[120] ^= 1
	sends(t, "sum", l, laid[100:], []byte{token.Wrong})
	if !bytes.Equal(m.Sector(1), row(8)) || !bytes.Equal(m.Sector(2), row(0)) || m.State() != api.STran {
		t.Error("sectors")
	}
	sends(t, "no block is waited for", l, []byte{token.Start}, nil)
	if l.Errors() != 5 {
		t.Error(l.Errors())
	}
}

func TestLengths(t *testing.T) { // P1, P2301: a block of any length is waited for
	b, answer := start()
	block := token.Lay(row(1))
	for _, n := range []int{129, math.MaxInt - 3, math.MaxInt - 2, math.MaxInt - 1, math.MaxInt} {
		_, m := line(t)
		l := wire.New(m, n)
		sends(t, "start", l, b, answer)
		l.Send(ask(api.WriteOne, 1))
		sends(t, "too short", l, block, nil)
		if l.Waiting() != len(block) || l.Errors() != 0 || m.State() != api.SRecv {
			t.Errorf("length %d: %d wait, %d dropped", n, l.Waiting(), l.Errors())
		}
	}
	for _, n := range []int{math.MinInt, -1, 0} {
		_, m := line(t)
		l := wire.New(m, n)
		sends(t, "start", l, b, answer)
		l.Send(ask(api.WriteOne, 1))
		l.Send(block)
	}
}

func TestPieces(t *testing.T) { // P2302
	for seed := range int64(30) {
		r := rand.New(rand.NewSource(seed))
		b, _ := start()
		for range 60 {
			switch r.Intn(6) {
			case 0:
				b = append(b, byte(r.Intn(256)))
			case 1:
				b = append(b, token.Lay(row(byte(r.Intn(256))))...)
			default:
				i := []int{api.ReadOne, api.WriteOne, api.WriteMany, api.SetCount, api.Status, api.SendRegs, api.Stop}[r.Intn(7)]
				b = append(b, ask(i, uint32(1+r.Intn(5)))...)
			}
			if r.Intn(10) == 0 {
				b[len(b)-1-r.Intn(6)] ^= byte(1 << r.Intn(8))
			}
		}
		whole, _ := line(t)
		want := whole.Send(b)
		pieces, _ := line(t)
		var got []byte
		for len(b) > 0 {
			n := min(len(b), r.Intn(9))
			got = append(got, pieces.Send(b[:n])...)
			b = b[n:]
		}
		if !bytes.Equal(got, want) || pieces.Errors() != whole.Errors() || pieces.Waiting() != whole.Waiting() {
			t.Fatalf("seed %d: answered otherwise", seed)
		}
	}
}

// gone is a card that has lost its power.
type gone struct{ *model.Abstract }

func (gone) Down() bool { return true }

func TestGone(t *testing.T) { // P2301
	_, m := line(t)
	l := wire.New(gone{m}, 128)
	b, _ := start()
	sends(t, "no power", l, b, nil)
	if l.Waiting() != 0 || l.Errors() != 0 {
		t.Error("frames are taken all the same")
	}
	for _, n := range []int{-5, 0, 5000} {
		l := wire.New(m, n)
		l.Send(bytes.Repeat([]byte{0xFE, 0x58}, 100))
	}
}
