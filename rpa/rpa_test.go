package rpa_test

import (
	"bytes"
	"math"
	"testing"

	"locket/api"
	"locket/rpa"
	"locket/sha"
)

func key() (k [32]byte) {
	for i := range k {
		k[i] = byte(i + 1)
	}
	return k
}

func area(t *testing.T, s rpa.State) *rpa.Area {
	t.Helper()
	a, e := rpa.New(4, s)
	if e != api.OK {
		t.Fatal(e)
	}
	return a
}

func keyed(t *testing.T, counter uint32) *rpa.Area {
	t.Helper()
	return area(t, rpa.State{Key: key(), HasKey: true, Counter: counter})
}

// cells are what reads tell.
func cells(addr int) ([64]byte, bool) {
	return [64]byte{0: byte(addr), 63: 9}, addr != 3
}

func write(counter uint32, addr int, x byte) rpa.Frame {
	return rpa.Sign(rpa.Frame{Type: rpa.Write, Counter: counter, Addr: addr, Count: 1, Data: [64]byte{x}}, key())
}

func answers(t *testing.T, what string, a *rpa.Area, want rpa.Frame) {
	t.Helper()
	if got := a.Answer(cells); got != want {
		t.Errorf("%s: %+v, not %+v", what, got, want)
	}
}

func TestEncode(t *testing.T) { // P1601
	f := rpa.Frame{Counter: 0x01020304, Addr: 0x10506, Count: 0x0708, Result: -1, Type: 0x0B0C}
	f.Tag[0], f.Tag[31], f.Data[0], f.Data[63], f.Nonce[0], f.Nonce[15] = 1, 2, 3, 4, 5, 6
	b := rpa.Encode(f)
	for i, x := range map[int]byte{0: 0, 3: 0, 4: 1, 35: 2, 36: 3, 99: 4, 100: 5, 115: 6} {
		if b[i] != x {
			t.Errorf("byte %d: %x", i, b[i])
		}
	}
	if !bytes.Equal(b[116:], []byte{1, 2, 3, 4, 5, 6, 7, 8, 255, 255, 0x0B, 0x0C}) {
		t.Errorf("%x", b[116:])
	}
	want := f
	want.Addr, want.Result = 0x0506, 0xFFFF
	long := append(bytes.Clone(b[:]), 0, 0, 0)
	if g, e := rpa.Decode(long); g != want || e != api.OK {
		t.Error(e)
	}
	long[130] = 1
	first := bytes.Clone(b[:])
	first[3] = 1
	for _, x := range [][]byte{long, first} {
		if g, e := rpa.Decode(x); g != (rpa.Frame{}) || e != api.ErrForm {
			t.Error(e)
		}
	}
	first[0] = 1
	for _, x := range [][]byte{nil, b[:127], first[:127]} {
		if g, e := rpa.Decode(x); g != (rpa.Frame{}) || e != api.ErrShort {
			t.Error(e)
		}
	}
	k := key()
	if s := rpa.Sign(f, k); s.Tag != sha.Mac(k[:], b[36:]) || s.Data != f.Data || s.Addr != f.Addr {
		t.Error("Sign")
	}
}

func TestNew(t *testing.T) { // P1602
	for n, s := range map[int]rpa.State{0: {}, -1: {}, 257: {}, 5: {Counter: 1}, 6: {Key: key()}} {
		if a, e := rpa.New(n, s); a != nil || e != api.ErrArg {
			t.Errorf("%d: %v", n, e)
		}
	}
	s := rpa.State{Key: key(), HasKey: true, Counter: 7}
	a := area(t, s)
	if a.State() != s {
		t.Error("state")
	}
	answers(t, "nothing was asked", a, rpa.Frame{})
	area(t, rpa.State{HasKey: true})
}

func TestKey(t *testing.T) { // P1603, P1604
	a := area(t, rpa.State{})
	f := rpa.Frame{Type: rpa.Key}
	for i := range f.Data {
		f.Data[i] = byte(i + 1)
	}
	want := rpa.Step{Key: true}
	copy(want.Data[:32], f.Data[:])
	s := a.Ask(f)
	if s != want || a.State().HasKey {
		t.Errorf("%+v", s)
	}
	answers(t, "ahead of Done", a, rpa.Frame{Type: 256})
	a.Done(rpa.Step{Key: true}, true)
	a.Done(s, false)
	answers(t, "undone", a, rpa.Frame{Type: 256, Result: 6})
	a.Done(s, true)
	if a.State() != (rpa.State{}) {
		t.Error("nothing has changed")
	}
	s = a.Ask(f)
	a.Done(s, true)
	answers(t, "done", a, rpa.Frame{Type: 256})
	if a.State() != (rpa.State{Key: key(), HasKey: true}) {
		t.Error("state")
	}
	if a.Ask(f) != (rpa.Step{}) {
		t.Error("a second key")
	}
	answers(t, "a second key", a, rpa.Frame{Type: 256, Result: 1})
}

func TestWrite(t *testing.T) { // P1603, P1604, P1605
	a := keyed(t, 5)
	f := write(5, 2, 8)
	s := a.Ask(f)
	if s != (rpa.Step{Write: true, Addr: 2, Data: f.Data}) {
		t.Errorf("%+v", s)
	}
	answers(t, "ahead of Done", a, rpa.Sign(rpa.Frame{Type: 768, Addr: 2, Counter: 5}, key()))
	a.Ask(f)
	a.Done(s, false)
	answers(t, "undone", a, rpa.Sign(rpa.Frame{Type: 768, Addr: 2, Counter: 5, Result: 6}, key()))
	s = a.Ask(f)
	a.Done(s, true)
	a.Done(s, true)
	if a.State().Counter != 6 {
		t.Error("one more")
	}
	done := rpa.Sign(rpa.Frame{Type: 768, Addr: 2, Counter: 6}, key())
	answers(t, "done", a, done)
	a.Ask(rpa.Frame{Type: rpa.Counter})
	a.Ask(rpa.Frame{Type: rpa.Result})
	answers(t, "asked again", a, done)
	answers(t, "asked again", a, done)
	refused := func(what string, f rpa.Frame, result int) {
		t.Helper()
		if a.Ask(f) != (rpa.Step{}) {
			t.Errorf("%s is taken", what)
		}
		a.Done(rpa.Step{Write: true, Addr: f.Addr, Data: f.Data}, true)
		answers(t, what, a, rpa.Sign(rpa.Frame{Type: 768, Addr: f.Addr, Counter: a.State().Counter, Result: result}, key()))
	}
	refused("a second time", f, 3)
	bad := write(6, 1, 1)
	bad.Tag[9] ^= 1
	refused("tag", bad, 2)
	bad = write(6, 1, 1)
	bad.Data[5] ^= 1
	refused("data", bad, 2)
	refused("counter", write(7, 1, 1), 3)
	refused("counter and address", write(7, 4, 1), 3)
	refused("address", write(6, 4, 1), 4)
	refused("address", write(6, -1, 1), 4)
	two := rpa.Sign(rpa.Frame{Type: rpa.Write, Counter: 6, Count: 2}, key())
	refused("count", two, 4)
	a = keyed(t, math.MaxUint32)
	refused("no counter is left", write(math.MaxUint32, 1, 1), 5)
	refused("no counter is left", write(0, 1, 1), 5)
	bad = write(0, 1, 1)
	bad.Tag[0] ^= 1
	refused("tag first", bad, 2)
	a = area(t, rpa.State{})
	if a.Ask(write(0, 9, 1)) != (rpa.Step{}) {
		t.Error("without a key")
	}
	answers(t, "without a key", a, rpa.Frame{Type: 768, Addr: 9, Result: 7})
}

func TestQuestions(t *testing.T) { // P1604
	a := area(t, rpa.State{})
	nonce := [16]byte{1, 2, 15: 3}
	a.Ask(rpa.Frame{Type: rpa.Result})
	answers(t, "nothing was", a, rpa.Frame{})
	a.Ask(rpa.Frame{Type: rpa.Counter, Nonce: nonce, Addr: 3})
	answers(t, "counter, no key", a, rpa.Frame{Type: 512, Nonce: nonce, Result: 7})
	a.Ask(rpa.Frame{Type: rpa.Read, Nonce: nonce, Addr: 2})
	answers(t, "read, no key", a, rpa.Frame{Type: 1024, Nonce: nonce, Addr: 2, Result: 7})
	a.Ask(rpa.Frame{Type: rpa.Result})
	answers(t, "nothing but questions", a, rpa.Frame{})
	for _, k := range []int{0, 6, -1, 65535} {
		a.Ask(rpa.Frame{Type: k, Nonce: nonce})
		answers(t, "another", a, rpa.Frame{Type: 256 * k, Result: 1})
	}
	a = keyed(t, 77)
	a.Ask(rpa.Frame{Type: rpa.Counter, Nonce: nonce, Addr: 3})
	answers(t, "counter", a, rpa.Sign(rpa.Frame{Type: 512, Nonce: nonce, Counter: 77}, key()))
	a.Ask(rpa.Frame{Type: rpa.Read, Nonce: nonce, Addr: 2})
	answers(t, "read", a, rpa.Sign(rpa.Frame{Type: 1024, Nonce: nonce, Addr: 2, Count: 1, Data: [64]byte{0: 2, 63: 9}}, key()))
	for _, addr := range []int{3, 4, -1} {
		a.Ask(rpa.Frame{Type: rpa.Read, Nonce: nonce, Addr: addr})
		answers(t, "no place", a, rpa.Sign(rpa.Frame{Type: 1024, Nonce: nonce, Addr: addr, Result: 4}, key()))
	}
	s := a.Ask(write(77, 1, 1))
	a.Ask(rpa.Frame{Type: rpa.Counter})
	a.Done(s, true)
	if a.State().Counter != 77 {
		t.Error("a step that is not what Ask told last")
	}
}
