package core

import (
	"bytes"

	"locket/api"
	"locket/areas"
	"locket/ftl"
	"locket/guard"
	"locket/nand"
	"locket/proto"
	"locket/regs"
	"locket/rpa"
)

// Keys of small records. The last one is read by the store itself: which sectors are enhanced.
const (
	regsKey   = 0
	guardKey  = 1
	layoutKey = 15
)

const (
	layoutHead = "enhanced"
	cellSize   = 64 // bytes of a place of the keyed area
	background = 64 // pages that a Switch of RWork moves at most
)

// onFlash is a card's store: a sector's place is its number there. The keyed area's first sector has its state, too, behind the bytes of its place, so that one goes with the other.
type onFlash struct {
	*ftl.Store
	flash *nand.Flash
	c     api.Config
	gone  bool
	regs  []byte // as they last
	guard []byte
}

// Down tells whether the power has gone since the card was made; it stays so.
func (s *onFlash) Down() bool {
	s.gone = s.gone || s.flash.Off()
	return s.gone
}

func (s *onFlash) Read(place int) ([]byte, bool) {
	b, e := s.Store.Read(place)
	return b, e == api.OK
}

func (s *onFlash) Write(l []proto.Put) bool {
	puts := make([]ftl.Put, len(l))
	for i, p := range l {
		puts[i] = ftl.Put{Sector: p.Place, Data: p.Data}
	}
	return s.Store.Write(puts...) == api.OK
}

// Clear makes places all 0; such as may be loose are so, too.
func (s *onFlash) Clear(places []int, _ bool) bool {
	puts := make([]ftl.Put, len(places))
	for i, p := range places {
		puts[i] = ftl.Put{Sector: p}
	}
	return s.Store.Write(puts...) == api.OK
}

func (s *onFlash) Touch(int) {}

// Keep writes what has changed of what lasts.
func (s *onFlash) Keep(r *regs.File, g *guard.Guard) bool {
	if b := r.Lasting(); !bytes.Equal(b, s.regs) {
		if s.Set(regsKey, b) != api.OK {
			return false
		}
		s.regs = b
	}
	if b := g.Lasting(); !bytes.Equal(b, s.guard) {
		if s.Set(guardKey, b) != api.OK {
			return false
		}
		s.guard = b
	}
	return true
}

// firstKeyed is the place of the keyed area's first sector.
func (s *onFlash) firstKeyed() int { return s.Sectors() - s.c.Rpa }

// Keyed does a step of the keyed area: its data and its state at once.
func (s *onFlash) Keyed(step rpa.Step, place int, next rpa.State) bool {
	first, e := s.Store.Read(s.firstKeyed())
	if e != api.OK {
		return false
	}
	packState(first[cellSize:], next)
	if !step.Write {
		return s.Atomic(ftl.Put{Sector: s.firstKeyed(), Data: first}) == api.OK
	}
	if place == s.firstKeyed() {
		copy(first, step.Data[:])
		return s.Atomic(ftl.Put{Sector: place, Data: first}) == api.OK
	}
	data := make([]byte, s.c.Sector)
	copy(data, step.Data[:])
	return s.Atomic(ftl.Put{Sector: place, Data: data}, ftl.Put{Sector: s.firstKeyed(), Data: first}) == api.OK
}

// packState says the keyed area's state: whether there is a key, the counter, the key.
func packState(b []byte, r rpa.State) {
	b[0] = 0
	if r.HasKey {
		b[0] = 1
	}
	for k := range 4 {
		b[1+k] = byte(r.Counter >> (8 * k))
	}
	copy(b[5:], r.Key[:])
}

func (s *onFlash) readState() (rpa.State, api.Errno) {
	b, e := s.Store.Read(s.firstKeyed())
	if e != api.OK {
		return rpa.State{}, e
	}
	b = b[cellSize:]
	r := rpa.State{HasKey: b[0] == 1}
	for k := range 4 {
		r.Counter |= uint32(b[1+k]) << (8 * k)
	}
	copy(r.Key[:], b[5:])
	return r, api.OK
}

func (s *onFlash) Work() bool {
	_, e := s.Store.Work(background)
	return e == api.OK
}

func (s *onFlash) Health() (life, debt byte) { return byte(s.Life()), byte(s.Debt()) }

// rearrange lets the store know which sectors are enhanced, and writes those anew that do not lie so yet. It is done behind each power-up, as the one at which the areas came up may have been cut.
func (s *onFlash) rearrange(t *areas.Table) api.Errno {
	layout := layoutOf(t, s.Sectors())
	if old, ok := s.Get(layoutKey); !ok && t.Setting().Enhanced != 0 || ok && !bytes.Equal(old, layout) {
		if e := s.Set(layoutKey, layout); e != api.OK {
			return e
		}
	}
	for place := range s.Sectors() {
		p, ok := s.Where(place)
		if !ok || !t.Enhanced(place) {
			continue
		}
		if _, one := s.Uses(p.Block); one {
			continue
		}
		b, e := s.Store.Read(place)
		if e == api.OK {
			e = s.Store.Write(ftl.Put{Sector: place, Data: b})
		}
		if e != api.OK {
			return e
		}
	}
	return api.OK
}

// layoutOf says which places are enhanced, as runs: the first one and how many, four bytes each, the lowest first.
func layoutOf(t *areas.Table, places int) []byte {
	out := []byte(layoutHead)
	for from := 0; from < places; {
		n := 0
		for from+n < places && t.Enhanced(from+n) {
			n++
		}
		if n > 0 {
			for _, x := range [2]int{from, n} {
				out = append(out, byte(x), byte(x>>8), byte(x>>16), byte(x>>24))
			}
		}
		from += n + 1
	}
	return out
}
