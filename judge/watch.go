package judge

import (
	"bytes"
	"errors"

	"locket/api"
	"locket/areas"
	"locket/crc"
	"locket/frame"
	"locket/geom"
	"locket/guard"
	"locket/model"
	"locket/proto"
	"locket/regs"
	"locket/rpa"
	"locket/token"
	"locket/wear"
)

const (
	shortSize = 6
	longSize  = 17
	sumSize   = 2
)

// deed is what was done to a place: it has data for good; or it may be 0, too.
type deed struct {
	place  int
	data   []byte
	lasts  bool
	loose  bool
	flight bool // a command was about it, not the cache alone
}

// trail is a store that tells what was done to it.
type trail struct {
	size    int
	sectors [][]byte
	was     [][]byte // what loose places were
	deeds   []deed
	block   []byte // what is being written
	about   int    // where to; below 0: nowhere
	doubt   bool   // something that is not asked for behind a cut was done
}

func (t *trail) Read(place int) ([]byte, bool) { return t.padded(t.sectors[place]), true }

func (t *trail) padded(b []byte) []byte {
	out := make([]byte, t.size)
	copy(out, b)
	return out
}

func (t *trail) put(place int, b []byte, flight bool) {
	t.sectors[place], t.was[place] = t.padded(b), nil
	t.deeds = append(t.deeds, deed{place: place, data: t.padded(b), lasts: true, flight: flight})
}

// Write is of a block that came, or of what has left the cache.
func (t *trail) Write(l []proto.Put) bool {
	for _, p := range l {
		t.put(p.Place, p.Data, p.Place == t.about && bytes.Equal(p.Data, t.block))
	}
	return true
}

func (t *trail) Clear(places []int, loose bool) bool {
	for _, p := range places {
		if !loose {
			t.put(p, nil, true)
			continue
		}
		if t.was[p] == nil {
			t.was[p] = t.padded(t.sectors[p])
		}
		t.sectors[p] = nil
		t.deeds = append(t.deeds, deed{place: p, data: t.padded(nil), loose: true, flight: true})
	}
	return true
}

func (t *trail) Touch(place int) { t.about = place }

func (t *trail) Keep(*regs.File, *guard.Guard) bool { return true }

func (t *trail) Keyed(s rpa.Step, place int, _ rpa.State) bool {
	t.doubt = true
	if s.Write {
		t.put(place, s.Data[:], true)
	}
	return true
}

func (t *trail) Work() bool { return true }

func (t *trail) Health() (life, debt byte) { return 0, 0 }

func (t *trail) Down() bool { return false }

// piece is some bytes of an answer.
type piece struct {
	size int
	regs bool
	was  []byte // what they may be instead
}

// watch is the abstract card, with a second one beside it that tells what was done.
type watch struct {
	m     *model.Abstract
	twin  *proto.Card
	trail *trail
	parts []piece // of what was answered since they were taken last
}

func newWatch(c api.Config) (*watch, api.Errno) {
	m, e := model.New(c)
	if e != api.OK {
		return nil, e
	}
	table, e := areas.New(c, areas.Setting{})
	if e != api.OK {
		return nil, e
	}
	groups, e := guard.New(geom.Groups(c))
	if e != api.OK {
		return nil, e
	}
	n := m.Sectors()
	t := &trail{size: c.Sector, about: -1, sectors: make([][]byte, n), was: make([][]byte, n)}
	twin, ok := proto.New(c, t, proto.Lasting{Regs: regs.New(), Guard: groups, Areas: table})
	if !ok {
		return nil, api.ErrArg
	}
	return &watch{m: m, twin: twin, trail: t}, api.OK
}

func (w *watch) State() int { return w.m.State() }

func (w *watch) place(area, sector int) (int, bool) { return w.twin.Areas().Place(area, sector) }

// Command hands a command on, and notes of what the answer is made.
func (w *watch) Command(c frame.Command, good bool) api.Answer {
	before := w.olds()
	area := int(w.m.Regs()[api.RArea])
	a := w.m.Command(c, good)
	w.twin.Command(c, good)
	w.recall(before, c)
	if a.None {
		return a
	}
	switch c.Index {
	case api.Switch, api.SetGuard, api.ClrGuard:
		w.trail.doubt = true
	}
	size := shortSize
	if len(a.Long) > 0 {
		size = longSize
	}
	w.parts = append(w.parts, piece{size: size})
	for i, b := range a.Blocks {
		p := piece{size: len(b) + 1 + sumSize, regs: c.Index == api.SendRegs}
		if place, ok := w.place(area, int(c.Argument)+i); ok && area != api.Rpa && (c.Index == api.ReadOne || c.Index == api.ReadMany) && w.m.Loose(place) {
			p.was = w.trail.was[place]
		}
		w.parts = append(w.parts, p)
	}
	return a
}

// olds is what cached places hold: what a discard makes loose was that.
func (w *watch) olds() []api.Write {
	var out []api.Write
	for _, group := range w.m.Cached() {
		out = append(out, group...)
	}
	return out
}

// recall puts right what loose places were, if it lay in the cache.
func (w *watch) recall(before []api.Write, c frame.Command) {
	if c.Index != api.Erase {
		return
	}
	for _, x := range before {
		if place, ok := w.place(x.Area, x.Sector); ok && w.m.Loose(place) {
			w.trail.was[place] = x.Data
		}
	}
}

// Data hands a block on. What goes to the cache is about its sector, too.
func (w *watch) Data(b []byte, good bool) byte {
	answer := w.m.Data(b, good)
	w.trail.block, w.trail.about = bytes.Clone(b), -1
	w.twin.Data(b, good)
	w.parts = append(w.parts, piece{size: 1})
	if at := w.trail.about; at >= 0 {
		w.trail.deeds = append(w.trail.deeds, deed{place: at, data: w.trail.block, flight: true})
	}
	w.trail.about = -1
	return answer
}

// powerUp is the power's going and coming back.
func (w *watch) powerUp(read func(place int) []byte) {
	w.m.PowerUp(read)
	for place := range w.trail.sectors {
		if b := read(place); len(b) > 0 {
			w.trail.sectors[place] = w.trail.padded(b)
		}
		w.trail.was[place] = nil
	}
	w.twin.PowerUp()
	w.trail.deeds, w.trail.doubt, w.parts = nil, false, nil
}

// compare tells the first byte of an answer that may not be.
func (w *watch) compare(want, got []byte) error {
	at := 0
	for _, p := range w.parts {
		n := min(p.size, len(got)-at)
		err := p.compare(want[at:at+p.size], got[at:at+n])
		var x *Wrong
		if errors.As(err, &x) {
			return &Wrong{at + x.At, wantAnswer}
		}
		at += p.size
	}
	if len(got) > at {
		return &Wrong{at, wantAnswer}
	}
	return nil
}

// compare is that of one piece; got may be shorter.
func (p piece) compare(want, got []byte) error {
	n := matching(want, got)
	if p.regs {
		n = matching(asSaid(want, got), got)
	}
	if p.was != nil {
		n = max(n, matching(token.Lay(p.was), got))
	}
	if n < p.size {
		return &Wrong{At: n}
	}
	return nil
}

// matching is how many bytes are alike.
func matching(want, got []byte) int {
	n := 0
	for n < len(got) && n < len(want) && want[n] == got[n] {
		n++
	}
	return n
}

// asSaid is a block of registers with those taken over that may be any.
func asSaid(want, got []byte) []byte {
	out := append([]byte{}, want...)
	for _, n := range [2]int{api.RLife, api.RDebt} {
		if at := 1 + n; at < len(got) && (n != api.RDebt || got[at] <= wear.Most) {
			out[at] = got[at]
		}
	}
	end := len(out) - sumSize
	sum := crc.Sixteen(out[1:end])
	out[end], out[end+1] = byte(sum>>8), byte(sum)
	return out
}
