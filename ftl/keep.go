package ftl

import (
	"slices"

	"locket/api"
	"locket/slots"
	"locket/smap"
)

// Keys of what is kept beside the pages, and of the small record that may say which sectors are enhanced.
const (
	shapeKey  = 0
	rootKey   = 1
	layoutKey = records - 1
)

const (
	minRecs    = 3 // good blocks that the kept records ask for
	layoutHead = "enhanced"
)

// keep keeps a record for good. Blocks that have failed under it are made up for by others.
func (s *engine) keep(key int, b []byte) api.Errno {
	for {
		e := s.widen()
		if e != api.OK {
			return e
		}
		_, _, _, before := s.Flash().Count()
		e = s.small.Put(key, b)
		_, _, _, after := s.Flash().Count()
		s.erases += uint64(after - before)
		if e != api.ErrFail {
			return e
		}
	}
}

// widen hands more blocks to the records, if too few of theirs are good.
func (s *engine) widen() api.Errno {
	good := s.small.Blocks()
	if len(good) >= minRecs {
		return api.OK
	}
	for n := len(good); n < minRecs; n++ {
		b, e := s.take(false)
		if e != api.OK {
			return e
		}
		s.blocks[b].kind = isRec
		s.recAt = append(s.recAt, b)
	}
	return s.reopen(s.recAt)
}

// reopen opens the records anew, in these blocks; those of them that have failed are read all the same.
func (s *engine) reopen(all []int) api.Errno {
	small, err := slots.Open(s.Media, all...)
	if err != nil {
		return errno(err)
	}
	s.small = small
	return api.OK
}

// layout takes over from a small record which sectors are enhanced; one that says nothing of it changes nothing.
func (s *engine) layout(b []byte) {
	if len(b) < len(layoutHead) || string(b[:len(layoutHead)]) != layoutHead || (len(b)-len(layoutHead))%runSize != 0 {
		return
	}
	runs := unpackRuns(b[len(layoutHead):], len(b))
	for _, r := range runs {
		if r.first+r.count > s.sectors {
			return
		}
	}
	clear(s.one)
	for _, r := range runs {
		for i := range r.count {
			s.enhance(r.first+i, true)
		}
	}
}

// word is the bits of sixteen sectors, as a place: that is what the map can hold.
func word(bits int) smap.Place { return smap.Place{Block: bits >> 8, Page: bits & 0xFF} }

// saveBits puts into the map which sectors are enhanced.
func (s *engine) saveBits() {
	for w := 0; w*perWord < s.sectors; w++ {
		bits := 0
		for k := range perWord {
			if i := w*perWord + k; i < s.sectors && s.enhanced(i) {
				bits |= 1 << k
			}
		}
		if bits != 0 {
			s.maps.set(s.sectors+records+w, word(bits))
		}
	}
}

// loadBits takes it out of the map.
func (s *engine) loadBits() {
	for w := 0; w*perWord < s.sectors; w++ {
		p, ok := s.maps.place(s.sectors + records + w)
		if !ok {
			continue
		}
		for k := range perWord {
			if i := w*perWord + k; i < s.sectors {
				s.enhance(i, (p.Block<<8|p.Page)>>k&1 == 1)
			}
		}
	}
}

// pad makes a list of blocks for the records long enough, by blocks in which nothing is.
func (s *engine) pad(l []int) []int {
	good := 0
	for _, b := range l {
		if !slices.Contains(s.Media.Bad(), b) {
			good++
		}
	}
	for b := 0; b < len(s.blocks) && good < minRecs; b++ {
		if s.blocks[b].kind == isFree && !slices.Contains(l, b) {
			l = append(l, b)
			good++
		}
	}
	return l
}
