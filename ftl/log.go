package ftl

import (
	"locket/api"
	"locket/smap"
	"locket/wear"
)

// put writes one page of the log, and lets the map tell of it.
func (s *engine) put(index int, data []byte, one bool) api.Errno {
	if e := s.prepare(); e != api.OK {
		return e
	}
	p, e := s.append(head{kind: dataPage, group: 1, index: index}, data, one)
	if e != api.OK {
		return e
	}
	s.moved(index, p)
	return api.OK
}

// clear makes the sectors at the front of l that have no data all 0, as many as one page takes: how many of l it did.
func (s *engine) clear(l []Put) (int, api.Errno) {
	var runs []run
	n, sectors := 0, 0
	for n < len(l) && len(l[n].Data) == 0 && sectors < maxClear {
		next := add(runs, l[n].Sector)
		if len(next)*runSize > s.c.Sector {
			break
		}
		if _, ok := s.maps.place(l[n].Sector); ok {
			runs, sectors = next, sectors+1
		}
		n++
	}
	if len(runs) == 0 {
		return n, api.OK
	}
	if e := s.prepare(); e != api.OK {
		return n, e
	}
	s.maps.haste()
	p, e := s.append(head{kind: clearPage, group: 1, runs: byte(len(runs))}, packRuns(runs), false)
	if e != api.OK {
		return n, e
	}
	s.pin(p.Block)
	s.clearRuns(runs)
	return n, api.OK
}

// add puts a sector behind runs.
func add(runs []run, sector int) []run {
	if k := len(runs) - 1; k >= 0 && runs[k].first+runs[k].count == sector {
		out := append([]run{}, runs...)
		out[k].count++
		return out
	}
	return append(runs, run{sector, 1})
}

func (s *engine) clearRuns(runs []run) {
	for _, r := range runs {
		for i := range r.count {
			s.cleared(r.first + i)
		}
	}
}

// group writes pages that hold together: they count when all of them are there.
func (s *engine) group(l []Put) api.Errno {
	var data []Put
	var runs []run
	for _, p := range l {
		if e := s.prepare(); e != api.OK {
			return e
		}
		if len(p.Data) > 0 {
			data = append(data, p)
		} else if _, ok := s.maps.place(p.Sector); ok {
			runs = append(runs, run{p.Sector, 1})
		}
	}
	s.maps.haste()
	h := head{group: byte(len(data))}
	if len(runs) > 0 {
		h.group++
	}
	places := make([]smap.Place, 0, len(data))
	for i, d := range data {
		h.kind, h.turn, h.index = dataPage, byte(i), d.Sector
		p, e := s.append(h, d.Data, s.enhanced(d.Sector))
		if e != api.OK {
			return e
		}
		places = append(places, p)
		if h.group > 1 {
			s.pin(p.Block)
		}
	}
	if len(runs) > 0 {
		h = head{kind: clearPage, turn: byte(len(data)), group: h.group, runs: byte(len(runs))}
		p, e := s.append(h, packRuns(runs), false)
		if e != api.OK {
			return e
		}
		s.pin(p.Block)
	}
	for i, d := range data {
		s.moved(d.Sector, places[i])
	}
	s.clearRuns(runs)
	return api.OK
}

// prepare is what is done ahead of each sector: a share of the map is written, a share of garbage collected.
func (s *engine) prepare() api.Errno {
	if e := s.tick(); e != api.OK {
		return e
	}
	n := wear.Pay(s.debt())
	if s.spare() < scarce {
		n += urgent
	}
	_, e := s.collect(n)
	return e
}

// append writes a page to the end of the log, and tells where it lies.
func (s *engine) append(h head, payload []byte, one bool) (smap.Place, api.Errno) {
	for {
		b, e := s.room(one)
		if e != api.OK {
			return smap.Place{}, e
		}
		h.seq, h.worn, h.erases = s.seq+1, int(s.blocks[b].worn), s.erases
		first := s.Flash().Next(b) == 0
		page, e := s.Media.Write(b, h.pack(payload, s.c.Sector))
		switch e {
		case api.OK:
			s.seq, s.kept = h.seq, h.erases
			s.log++
			s.maps.credit++
			return smap.Place{Block: b, Page: page}, api.OK
		case api.ErrFail:
			s.fail(b)
		default:
			// A block whose first page was cut tells nothing of itself: it is not written on.
			if first {
				s.close(b)
			}
			return smap.Place{}, e
		}
	}
}

// room is the block that is written in a mode.
func (s *engine) room(one bool) (int, api.Errno) {
	k := 0
	if one {
		k = 1
	}
	b := s.open[k]
	if b >= 0 && s.Media.Room(b) > 0 {
		return b, api.OK
	}
	if b >= 0 {
		s.close(b)
	}
	b, e := s.take(one)
	if e == api.ErrFull {
		b, e = s.lastResort(one)
	}
	if e != api.OK {
		return 0, e
	}
	s.blocks[b].kind, s.blocks[b].pin = isData, 0
	s.open[k] = b
	return b, api.OK
}

// lastResort writes the whole map, so that what it holds can go.
func (s *engine) lastResort(one bool) (int, api.Errno) {
	if s.maps.forced {
		return 0, api.ErrFull
	}
	s.maps.forced = true
	e := s.writeMap()
	s.maps.forced = false
	if e != api.OK {
		return 0, e
	}
	return s.take(one)
}

// close ends the writing of a block.
func (s *engine) close(b int) {
	for k := range s.open {
		if s.open[k] == b {
			s.open[k] = -1
		}
	}
	s.settle(b)
}

// take makes a free block ready to be written.
func (s *engine) take(one bool) (int, api.Errno) {
	for {
		b, ok := wear.Fresh(one, s.list(isFree)...)
		if !ok {
			return 0, api.ErrFull
		}
		switch e := s.erase(b, one); e {
		case api.OK:
			s.blocks[b].stuck = false
			return b, api.OK
		case api.ErrFail:
			s.blocks[b].kind = isBad
		default:
			return 0, e
		}
	}
}

// erase erases a block, if it is not so already.
func (s *engine) erase(b int, one bool) api.Errno {
	if f := s.Flash(); f.Next(b) == 0 && f.One(b) == one && !f.Off() {
		return api.OK
	}
	e := s.Media.Erase(b, one)
	if e == api.OK {
		s.blocks[b].worn++
		s.erases++
	}
	return e
}

// fail is heard of a block that has failed while it was written.
func (s *engine) fail(b int) {
	s.blocks[b].kind = isBad
	s.close(b)
	s.sick = append(s.sick, b)
}

// pin keeps a block till the map has what its last page says.
func (s *engine) pin(b int) { s.blocks[b].pin = s.seq }

// moved lets the map tell that an index has a new place.
func (s *engine) moved(index int, p smap.Place) {
	old, had := s.maps.place(index)
	s.maps.set(index, p)
	s.blocks[p.Block].live++
	if had {
		s.blocks[old.Block].live--
		s.settle(old.Block)
	}
}

// cleared lets the map tell that an index has no place.
func (s *engine) cleared(index int) {
	if old, had := s.maps.place(index); had {
		s.maps.clear(index)
		s.blocks[old.Block].live--
		s.settle(old.Block)
	}
}

// settle lets a block be free, if nothing of it is needed any more.
func (s *engine) settle(b int) {
	x := &s.blocks[b]
	if x.kind != isData || x.live > 0 || x.pin > s.maps.root.seq || s.open[0] == b || s.open[1] == b {
		return
	}
	x.kind = isFree
	if s.victim == b {
		s.victim = -1
	}
}

// enhanced tells whether a sector lies in one-bit blocks.
func (s *engine) enhanced(sector int) bool { return s.one[sector/8]>>(sector%8)&1 == 1 }

func (s *engine) enhance(sector int, is bool) {
	s.one[sector/8] &^= 1 << (sector % 8)
	if is {
		s.one[sector/8] |= 1 << (sector % 8)
	}
}
