package ftl

import (
	"errors"

	"locket/api"
	"locket/geom"
	"locket/media"
	"locket/slots"
)

func errno(err error) api.Errno {
	var e api.Errno
	if errors.As(err, &e) {
		return e
	}
	return api.ErrBad
}

// Format makes a store whose sectors are all 0.
func Format(c api.Config, m *media.Media, enhanced func(sector int) bool) (*Store, error) {
	if !fits(c, m) {
		return nil, &fault{"format", api.ErrArg}
	}
	s := newEngine(c, m)
	if e := s.format(enhanced); e != api.OK {
		return nil, &fault{"format", e}
	}
	return &Store{s}, nil
}

func (s *engine) format(enhanced func(sector int) bool) api.Errno {
	count := 0
	for i := range s.sectors {
		if enhanced(i) {
			s.enhance(i, true)
			count++
		}
	}
	if len(s.Media.Bad()) > s.c.Spare || geom.Need(s.c, count-2*s.c.Boot-s.c.Rpa) > s.c.Blocks {
		return api.ErrFail
	}
	if s.Flash().Off() {
		return api.ErrDown
	}
	stale, e := s.wipe()
	if e != api.OK {
		return e
	}
	if len(s.Media.Bad()) > s.c.Spare {
		return api.ErrFail
	}
	if e := s.firstRecords(stale); e != api.OK {
		return e
	}
	s.saveBits()
	return s.writeMap()
}

// wipe erases all blocks in which something is: first those that may hold records, so that a store that was there is gone as a whole. Those that have failed keep what they hold: what is written from now on is later than it; which of them may hold records is told.
func (s *engine) wipe() ([]int, api.Errno) {
	var recs, others, stale []int
	for b := range s.blocks {
		if s.Flash().Next(b) == 0 {
			continue
		}
		data, e := s.Media.Read(b, 0)
		if e == api.ErrDown {
			return nil, e
		}
		if _, own := unpack(data); own || e != api.OK {
			others = append(others, b)
		} else {
			recs = append(recs, b)
		}
	}
	for _, b := range append(recs, others...) {
		gone, e := s.wipeOne(b)
		if e != api.OK {
			return nil, e
		}
		if !gone {
			stale = append(stale, b)
		}
	}
	return stale, api.OK
}

// wipeOne tells whether a block holds nothing any more that could be taken for records.
func (s *engine) wipeOne(b int) (bool, api.Errno) {
	if s.blocks[b].kind != isBad {
		switch e := s.erase(b, false); e {
		case api.OK:
			return true, api.OK
		case api.ErrFail:
			s.blocks[b].kind = isBad
		default:
			return false, e
		}
	}
	return s.outdo(b)
}

// outdo lets the log begin behind what a block holds; false, if pages in it are none of a store.
func (s *engine) outdo(b int) (bool, api.Errno) {
	own := true
	for page := range s.Flash().Next(b) {
		data, e := s.Media.Read(b, page)
		if e == api.ErrDown {
			return false, e
		}
		if e != api.OK {
			continue
		}
		h, ok := unpack(data)
		own = own && ok
		if ok && h.seq < 1<<60 {
			s.seq = max(s.seq, h.seq)
		}
	}
	return own, api.OK
}

// firstRecords makes the records, and the sheets of the map.
func (s *engine) firstRecords(stale []int) api.Errno {
	l := s.pad(nil)
	for _, b := range l {
		s.blocks[b].kind = isRec
	}
	_, _, _, before := s.Flash().Count()
	s.recAt = append(l, stale...)
	small, err := slots.Format(s.Media, s.recAt...)
	if err != nil {
		return errno(err)
	}
	s.small = small
	if e := s.small.Put(shapeKey, geom.Encode(s.c)); e != api.OK {
		return e
	}
	_, _, _, after := s.Flash().Count()
	s.erases += uint64(after - before)
	e := s.draw(nil)
	s.maps.root.seq = s.seq
	return e
}
