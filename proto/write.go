package proto

import (
	"locket/api"
	"locket/areas"
	"locket/guard"
	"locket/regs"
	"locket/rpa"
)

const (
	runsAt  = 8 // where a head's runs begin
	runSize = 8
)

// takeHead takes the head of a packed write.
func (k *Card) takeHead(b []byte) bool {
	sectors, ok := k.runs(b)
	if !ok {
		k.raise(api.BRange)
		k.end()
		return false
	}
	k.job.head, k.job.sectors = false, sectors
	k.Got()
	return true
}

// runs tells the sectors of a head; false, if they are not as many as blocks that come, or not in the area.
func (k *Card) runs(b []byte) ([]int, bool) {
	n := int(b[0])
	if n < 1 || runsAt+n*runSize > len(b) {
		return nil, false
	}
	var out []int
	for i := range n {
		r := b[runsAt+i*runSize : runsAt+(i+1)*runSize]
		first := int(r[0])<<24 | int(r[1])<<16 | int(r[2])<<8 | int(r[3])
		count := int(r[4])<<8 | int(r[5])
		if count < 1 || len(out)+count > k.job.blocks-1 || r[6] != 0 || r[7] != 0 || !k.inside(k.job.area, first, count) {
			return nil, false
		}
		for s := range count {
			out = append(out, first+s)
		}
	}
	return out, len(out) == k.job.blocks-1
}

// takeKeyed takes a frame to the keyed area.
func (k *Card) takeKeyed(b []byte) bool {
	f, e := rpa.Decode(b)
	if e != api.OK {
		k.raise(api.BFail)
		return false
	}
	s := k.keyed.Ask(f)
	if s.Key || s.Write {
		place, _ := k.areas.Place(api.Rpa, s.Addr)
		ok := k.store.Keyed(s, place, behind(k.keyed.State(), s))
		k.keyed.Done(s, ok)
	}
	return true
}

// behind is the keyed area's state behind a step.
func behind(r rpa.State, s rpa.Step) rpa.State {
	if s.Key {
		r.HasKey = true
		copy(r.Key[:], s.Data[:])
	} else {
		r.Counter++
	}
	return r
}

// takeSector takes a sector's bytes.
func (k *Card) takeSector(sector int, b []byte) bool {
	area := k.job.area
	place, ok := k.areas.Place(area, sector)
	if !ok || k.guarded(area, place) {
		k.raise(api.BGuard)
		return false
	}
	k.store.Touch(place)
	if k.regs.Get(api.RCache) == 1 && !k.job.reliable {
		return k.done(k.writeAll(k.cache.Put(api.Write{Area: area, Sector: sector, Data: b})))
	}
	k.cache.Drop(area, sector)
	return k.done(k.store.Write([]Put{{place, b}}))
}

// guarded tells whether a sector may not be written.
func (k *Card) guarded(area, place int) bool {
	if grouped(area) {
		return !k.guard.May(place / k.c.Group)
	}
	return area != api.Rpa && k.regs.Get(api.RBoot)>>(area-api.Boot0)&1 == 1
}

// writeAll writes what has left the cache.
func (k *Card) writeAll(l []api.Write) bool {
	var puts []Put
	for _, w := range l {
		if place, ok := k.areas.Place(w.Area, w.Sector); ok {
			puts = append(puts, Put{place, w.Data})
		}
	}
	return len(puts) == 0 || k.store.Write(puts)
}

// flush writes all of the cache, each group as a whole ahead of the next one.
func (k *Card) flush() bool {
	for _, group := range k.Cached() {
		if !k.writeAll(group) {
			return false
		}
	}
	k.cache.Clear()
	return true
}

// change is the switch command's.
func (k *Card) change(argument uint32) {
	n, v, e := k.regs.Next(argument)
	if e == api.OK {
		e = k.mayChange(n, v)
	}
	if e == api.OK {
		e = k.regs.Write(n, v)
	}
	if e != api.OK {
		k.raise(api.BSwitch)
		return
	}
	switch {
	case regs.Kind(n) == regs.Kind(api.RDone):
		k.keep()
	case n == api.RCache && v == 0, n == api.RFlush && v == 1:
		k.done(k.flush())
	case n == api.RBarrier && v == 1:
		k.cache.Barrier()
	case n == api.RWork && v == 1:
		k.done(k.store.Work())
	}
}

// mayChange asks what the registers don't know: whether an area has sectors, whether areas can be set so.
func (k *Card) mayChange(n int, v byte) api.Errno {
	if n == api.RArea && k.areas.Size(int(v)) == 0 {
		return api.ErrArg
	}
	if n == api.RDone && v == 1 && !k.areas.Setting().Done {
		return k.areas.Set(Setting(k.regs, true))
	}
	return api.OK
}

// Setting is how registers say that the areas are set up.
func Setting(r *regs.File, done bool) areas.Setting {
	s := areas.Setting{Enhanced: r.Get(api.REnh), Done: done}
	for i := range s.Sizes {
		s.Sizes[i] = int(r.Get(api.RGen + i))
	}
	return s
}

func (k *Card) keep() { k.done(k.store.Keep(k.regs, k.guard)) }

// protect sets, clears and tells the protection of groups.
func (k *Card) protect(index, sector int) [][]byte {
	area := k.area()
	place, ok := k.areas.Place(area, sector)
	if !ok || !grouped(area) {
		k.raise(api.BRange)
		return nil
	}
	group := place / k.c.Group
	switch index {
	case api.SetGuard:
		k.guard.Set(group, guard.Level(k.regs.Get(api.RGuard)))
		k.keep()
	case api.ClrGuard:
		if k.guard.Clear(group) == api.ErrProtect {
			k.raise(api.BGuard)
			return nil
		}
		k.keep()
	case api.SendGuard:
		bits := k.guard.Bits(group)
		return k.block([]byte{byte(bits >> 24), byte(bits >> 16), byte(bits >> 8), byte(bits)})
	}
	return nil
}

func (k *Card) eraseFrom(sector int) {
	area := k.area()
	k.span = span{}
	if area == api.Rpa || !k.inside(area, sector, 1) {
		k.raise(api.BRange)
		return
	}
	k.span = span{from: sector, hasFrom: true}
}

func (k *Card) eraseTo(sector int) {
	switch {
	case !k.span.hasFrom || sector < k.span.from:
		k.raise(api.BErase)
	case !k.inside(k.area(), sector, 1):
		k.raise(api.BRange)
	default:
		k.span.to, k.span.hasTo = sector, true
		return
	}
	k.span = span{}
}

// erase clears what is not guarded of what was said.
func (k *Card) erase(argument uint32) {
	s := k.span
	k.span = span{}
	if !s.hasFrom || !s.hasTo || argument != 0 && argument != 1 && argument != 3 {
		k.raise(api.BErase)
		return
	}
	var places []int
	area := k.area()
	for sector := s.from; sector <= s.to; sector++ {
		place, _ := k.areas.Place(area, sector)
		if k.guarded(area, place) {
			k.raise(api.BGuard)
			continue
		}
		k.cache.Drop(area, sector)
		places = append(places, place)
	}
	if len(places) > 0 {
		k.done(k.store.Clear(places, argument == 3))
	}
}

// Cid tells what the card is.
func Cid() []byte {
	out := make([]byte, 16)
	copy(out, "LOCKET")
	return out
}

// Csd tells what it has.
func Csd(c api.Config) []byte {
	out := make([]byte, 16)
	at := 0
	put := func(bytes, n int) {
		for k := range bytes {
			out[at+k] = byte(n >> (8 * (bytes - 1 - k)))
		}
		at += bytes
	}
	put(2, c.Sector)
	put(4, c.User)
	put(2, c.Boot)
	put(2, c.Rpa)
	put(2, c.Group)
	return out
}
