package ftl

import (
	"locket/api"
	"locket/wear"
)

const (
	scarce = 3  // free blocks below which collecting is urgent
	urgent = 2  // pages more that a sector pays then
	gap    = 32 // erases by which wear may drift apart
	seldom = 8  // each so many victims one is chosen for its wear
)

// list is all blocks as wear sees them; those alone that are of a kind, and not in use, are not open.
func (s *engine) list(kind byte) []wear.Block {
	out := make([]wear.Block, len(s.blocks))
	for n := range out {
		x := s.blocks[n]
		one := s.Flash().One(n)
		used := x.kind != kind || x.stuck || x.kind == isData && (x.pin > s.maps.root.seq || s.open[0] == n || s.open[1] == n)
		out[n] = wear.Block{N: n, Live: int(x.live), Pages: s.pages(one), Worn: int(x.worn), Open: used, One: one, Bad: x.kind == isBad}
	}
	return out
}

// pages is how many a block has in a mode.
func (s *engine) pages(one bool) int {
	if one {
		return s.c.Pages / 2
	}
	return s.c.Pages
}

// spare is how many free blocks there are beside those that may have failed unheard, and those that the next map takes.
func (s *engine) spare() int {
	free := 0
	for _, x := range s.blocks {
		if x.kind == isFree {
			free++
		}
	}
	free -= max(0, s.c.Spare-len(s.Bad()))
	left := s.maps.size
	if s.maps.busy {
		left = max(0, left-s.maps.written)
	}
	return free - left/s.c.Pages - 1
}

func (s *engine) debt() int { return wear.Debt(s.spare(), target) }

// collect moves up to n live pages out of blocks that are to be free.
func (s *engine) collect(n int) (int, api.Errno) {
	moved := 0
	for moved < n {
		if s.victim < 0 && !s.choose() {
			break
		}
		b := s.victim
		if len(s.rest) == 0 {
			s.victim = -1
			s.blocks[b].stuck = s.blocks[b].live > 0
			continue
		}
		index := s.rest[0]
		s.rest = s.rest[1:]
		did, e := s.move(b, index)
		if e != api.OK {
			return moved, e
		}
		if did {
			moved++
		}
	}
	return moved, api.OK
}

// living tells what lives in a block: it is sought in the map, so that pages that are dead need not be read.
func (s *engine) living(b int) []int {
	left := int(s.blocks[b].live)
	out := make([]int, 0, left)
	for i := 0; i < s.sectors+records && len(out) < left; i++ {
		if p, ok := s.maps.place(i); ok && p.Block == b {
			out = append(out, i)
		}
	}
	return out
}

// pick takes a block as the one that is collected next.
func (s *engine) pick(b int) { s.victim, s.rest = b, s.living(b) }

// choose finds the block that is collected next.
func (s *engine) choose() bool {
	l := s.list(isData)
	s.turns++
	b, ok := 0, false
	if s.turns%seldom == 0 && s.spare() >= scarce {
		b, ok = wear.Old(gap, l...)
	}
	if !ok {
		b, ok = wear.Victim(l...)
	}
	if ok {
		s.pick(b)
	}
	return ok
}

// move writes the page of an index anew, if it still lies in a block.
func (s *engine) move(b, index int) (bool, api.Errno) {
	at, live := s.maps.place(index)
	if !live || at.Block != b {
		return false, api.OK
	}
	data, e := s.Media.Read(b, at.Page)
	if e == api.ErrDown {
		return false, e
	}
	if e != api.OK {
		return false, api.OK // what cannot be read stays where it is
	}
	one := index < s.sectors && s.enhanced(index)
	p, e := s.append(head{kind: dataPage, group: 1, index: index}, data[headSize:], one)
	if e != api.OK {
		return false, e
	}
	s.moved(index, p)
	return true, api.OK
}

// heal moves what lives in blocks that have failed, and makes up for the room that it took.
func (s *engine) heal() api.Errno {
	for len(s.sick) > 0 {
		b := s.sick[0]
		s.sick = s.sick[1:]
		for _, index := range s.living(b) {
			if _, e := s.move(b, index); e == api.ErrDown {
				return e
			}
		}
		for n := 0; n < 5*s.c.Pages/2 && s.spare() < scarce; n++ {
			if k, e := s.collect(1); e != api.OK || k == 0 {
				return e
			}
		}
	}
	return api.OK
}

// Work moves pages now, to make blocks free.
func (s *Store) Work(pages int) (int, api.Errno) {
	if s.in.Flash().Off() {
		return 0, api.ErrDown
	}
	moved := 0
	for moved < pages && s.in.worthIt() {
		n, e := s.in.collect(1)
		if e == api.OK {
			e = s.in.tick()
		}
		if e != api.OK {
			return 0, e
		}
		if n == 0 {
			break
		}
		moved += n
	}
	if e := s.in.heal(); e != api.OK {
		return 0, e
	}
	return moved, api.OK
}

// worthIt tells whether there is something to do in the background: a debt, or wear that has drifted apart.
func (s *engine) worthIt() bool {
	if s.victim >= 0 || s.debt() > 0 {
		return true
	}
	b, ok := wear.Old(gap, s.list(isData)...)
	if ok {
		s.pick(b)
	}
	return ok
}
