package ftl

import (
	"errors"

	"locket/api"
	"locket/geom"
	"locket/media"
	"locket/slots"
)

func errno(err error) api.Errno {
	var e api.Errno
	if errors.As(err, &e) {
		return e
	}
	return api.ErrBad
}

// Format makes a store whose sectors are all 0.
func Format(c api.Config, m *media.Media, enhanced func(sector int) bool) (*Store, error) {
	if !fits(c, m) {
		return nil, &fault{"format", api.ErrArg}
	}
	s := newEngine(c, m)
	if e := s.format(enhanced); e != api.OK {
		return nil, &fault{"format", e}
	}
	return &Store{s}, nil
}

func (s *engine) format(enhanced func(sector int) bool) api.Errno {
	if s.narrow() {
		return api.ErrArg
	}
	count := 0
	for i := range s.sectors {
		if enhanced(i) {
			s.enhance(i, true)
			count++
		}
	}
	if len(s.Media.Bad()) > s.c.Spare || geom.Need(s.c, count-2*s.c.Boot-s.c.Rpa) > s.c.Blocks {
		return api.ErrFail
	}
	if s.Flash().Off() {
		return api.ErrDown
	}
	if e := s.tryOut(); e != api.OK {
		return e
	}
	stale, e := s.wipe()
	if e != api.OK {
		return e
	}
	if len(s.Media.Bad()) > s.c.Spare {
		return api.ErrFail
	}
	if e := s.firstRecords(stale); e != api.OK {
		return e
	}
	s.saveBits()
	return s.writeMap()
}

// page is the bytes of a page of the store.
func (s *engine) page() []byte { return head{}.pack(nil, s.c.Sector) }

// narrow tells whether it can be seen, without a page being written, that the media's pages have another length.
func (s *engine) narrow() bool {
	for b := range s.blocks {
		if s.Flash().Off() || s.Media.Room(b) == 0 {
			_, e := s.Media.Write(b, s.page())
			return e == api.ErrArg
		}
	}
	return false
}

// tryOut writes a page, to learn whether the media's pages have the right length: by their face alone there is no other way. It goes to a block in which nothing is, that the map is written to afterwards, if there is one.
func (s *engine) tryOut() api.Errno {
	s.maps.open = -1
	at := -1
	for b := range s.blocks {
		if s.blocks[b].kind == isBad {
			continue
		}
		if blank := s.Flash().Next(b) == 0 && !s.Flash().One(b); blank || at < 0 {
			at = b
			if blank {
				break
			}
		}
	}
	if at < 0 {
		return api.ErrFail
	}
	blank := s.Flash().Next(at) == 0
	switch _, e := s.Media.Write(at, s.page()); e {
	case api.OK:
		if blank {
			s.maps.open = at
		}
	case api.ErrFail:
		s.blocks[at].kind = isBad
	case api.ErrFull:
	default:
		return e
	}
	return api.OK
}

// wipe erases all blocks in which something is: first those that may hold records, so that a store that was there is gone as a whole. Those that have failed keep what they hold: what is written from now on is later than it; which of them may hold records is told.
func (s *engine) wipe() ([]int, api.Errno) {
	var recs, others, stale []int
	for b := range s.blocks {
		if s.Flash().Next(b) == 0 || b == s.maps.open {
			continue
		}
		data, e := s.Media.Read(b, 0)
		if e == api.ErrDown {
			return nil, e
		}
		if _, own := unpack(data); own || e != api.OK {
			others = append(others, b)
		} else {
			recs = append(recs, b)
		}
	}
	for _, b := range append(recs, others...) {
		gone, e := s.wipeOne(b)
		if e != api.OK {
			return nil, e
		}
		if !gone {
			stale = append(stale, b)
		}
	}
	return stale, api.OK
}

// wipeOne tells whether a block holds nothing any more that could be taken for records.
func (s *engine) wipeOne(b int) (bool, api.Errno) {
	if s.blocks[b].kind != isBad {
		switch e := s.erase(b, false); e {
		case api.OK:
			return true, api.OK
		case api.ErrFail:
			s.blocks[b].kind = isBad
		default:
			return false, e
		}
	}
	return s.outdo(b)
}

// outdo lets the log begin behind what a block holds; false, if pages in it are none of a store.
func (s *engine) outdo(b int) (bool, api.Errno) {
	own := true
	for page := range s.Flash().Next(b) {
		data, e := s.Media.Read(b, page)
		if e == api.ErrDown {
			return false, e
		}
		if e != api.OK {
			continue
		}
		h, ok := unpack(data)
		own = own && ok
		if ok && h.seq < 1<<60 {
			s.seq = max(s.seq, h.seq)
		}
	}
	return own, api.OK
}

// firstRecords makes the records, and the sheets of the map.
func (s *engine) firstRecords(stale []int) api.Errno {
	open := s.maps.open
	if open >= 0 {
		s.blocks[open].kind = isMap
	}
	l := s.pad(nil)
	for _, b := range l {
		s.blocks[b].kind = isRec
	}
	_, _, _, before := s.Flash().Count()
	s.recAt = append(l, stale...)
	small, err := slots.Format(s.Media, s.recAt...)
	if err != nil {
		return errno(err)
	}
	s.small = small
	if e := s.small.Put(shapeKey, geom.Encode(s.c)); e != api.OK {
		return e
	}
	_, _, _, after := s.Flash().Count()
	s.erases += uint64(after - before)
	e := s.draw(nil)
	s.maps.open = open
	s.maps.root.seq = s.seq
	return e
}
