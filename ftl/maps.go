package ftl

import (
	"slices"

	"locket/api"
	"locket/smap"
)

const (
	perMap    = 8 // parts of one map; so many are written at a time
	entrySize = 4
	hasteBy   = 32 // half pages of the map for which a page that must stay pays
)

// atlas is all maps side by side, and how far the writing of them is. All parts stay in memory. An index is a sector, or a small record, or a word of bits that say which sectors are enhanced.
type atlas struct {
	sector  int // bytes of a part
	sheets  []*smap.Map
	parts   [][]uint32 // where each part of each sheet lies, as a code
	root    root       // of what lies on the flash
	next    root       // of what is being written
	busy    bool       // a map is being written
	forced  bool
	sheet   int // the sheet that is next
	since   int // pages of the log that the next root has
	credit  int // half pages of the map that may be written
	open    int // the block that is written; below 0: none
	size    int // pages that all of it takes
	written int // of these, how many were written to the next one
}

func (a *atlas) span() int { return perMap * a.sector / entrySize }

func (a *atlas) place(index int) (smap.Place, bool) {
	p, ok, e := a.sheets[index/a.span()].Get(index % a.span())
	return p, ok && e == api.OK
}

func (a *atlas) set(index int, p smap.Place) { a.sheets[index/a.span()].Set(index%a.span(), p) }

func (a *atlas) clear(index int) { a.sheets[index/a.span()].Clear(index % a.span()) }

// measure reckons the size: all parts, and the directory.
func (a *atlas) measure() {
	bytes := 0
	for _, m := range a.sheets {
		bytes += len(m.Directory())
		a.size += m.Parts()
	}
	a.size += (bytes + a.sector - 1) / a.sector
}

// haste lets the map be written faster: a page was written that must stay till then.
func (a *atlas) haste() { a.credit += hasteBy }

// sink puts the parts of one sheet.
type sink struct {
	s     *engine
	sheet int
}

func (k *sink) Put(n int, b []byte) (smap.Place, api.Errno) {
	p, e := k.s.appendMap(head{kind: partPage, index: k.sheet*perMap + n}, b)
	if e == api.OK {
		k.s.maps.parts[k.sheet][n] = code(p)
	}
	return p, e
}

func (k *sink) Get(p smap.Place) ([]byte, api.Errno) {
	b, e := k.s.Media.Read(p.Block, p.Page)
	if e != api.OK {
		return nil, e
	}
	h, ok := unpack(b)
	n := h.index - k.sheet*perMap
	if !ok || h.kind != partPage || n < 0 || n >= len(k.s.maps.parts[k.sheet]) {
		return nil, api.ErrBad
	}
	k.s.maps.parts[k.sheet][n] = code(p)
	return b[headSize:], api.OK
}

// entries is how many indexes there are.
func (s *engine) entries() int {
	return s.sectors + records + (s.sectors+perWord-1)/perWord
}

// draw makes the sheets: new ones, or those of directories.
func (s *engine) draw(dirs []byte) api.Errno {
	a := &s.maps
	a.sector, a.open = s.c.Sector, -1
	for from := 0; from < s.entries(); from += a.span() {
		n := min(a.span(), s.entries()-from)
		k := &sink{s: s, sheet: len(a.sheets)}
		m, e := smap.New(n, a.sector, perMap, k)
		if e == api.OK && dirs != nil {
			size := len(m.Directory())
			if len(dirs) < size {
				return api.ErrForm
			}
			m, e = smap.Load(n, a.sector, perMap, k, dirs[:size])
			dirs = dirs[size:]
		}
		if e != api.OK {
			return e
		}
		a.sheets = append(a.sheets, m)
		a.parts = append(a.parts, make([]uint32, m.Parts()))
	}
	a.measure()
	return s.load()
}

// load brings all parts into memory.
func (s *engine) load() api.Errno {
	each := s.maps.sector / entrySize
	for _, m := range s.maps.sheets {
		for n := range m.Parts() {
			if _, _, e := m.Get(n * each); e != api.OK {
				return e
			}
		}
	}
	return api.OK
}

// appendMap writes a page of the map.
func (s *engine) appendMap(h head, payload []byte) (smap.Place, api.Errno) {
	a := &s.maps
	for {
		if a.open < 0 || s.Media.Room(a.open) == 0 {
			b, e := s.take(false)
			if e != api.OK {
				return smap.Place{}, e
			}
			a.open = b
			s.blocks[b].kind = isMap
		}
		b := a.open
		h.seq, h.worn, h.erases = s.seq, int(s.blocks[b].worn), s.erases
		first := s.Flash().Next(b) == 0
		page, e := s.Media.Write(b, h.pack(payload, s.c.Sector))
		switch e {
		case api.OK:
			s.blocks[b].gen = a.next.gen
			a.credit -= 2
			a.written++
			return smap.Place{Block: b, Page: page}, api.OK
		case api.ErrFail:
			s.blocks[b].kind, a.open = isBad, -1
		default:
			if first {
				s.blocks[b].kind, a.open = isFree, -1
			}
			return smap.Place{}, e
		}
	}
}

// limit is how long the log may grow before the map is written again.
func (s *engine) limit() int { return 2*s.maps.size + s.c.Pages }

// tick writes a share of the map, if its time has come.
func (s *engine) tick() api.Errno {
	if !s.maps.busy {
		if s.log < s.limit() && !s.pinned() {
			s.maps.credit = 0
			return api.OK
		}
		s.begin()
	}
	for s.maps.busy && s.maps.credit > 0 {
		if e := s.step(); e != api.OK {
			return e
		}
	}
	return api.OK
}

// pinned tells whether too many blocks wait for the map.
func (s *engine) pinned() bool {
	n := 0
	for _, x := range s.blocks {
		if x.kind == isData && x.live == 0 && x.pin > s.maps.root.seq {
			n++
		}
	}
	return n > 2
}

// begin starts to write a map that has all of the log up to here.
func (s *engine) begin() {
	a := &s.maps
	a.busy, a.sheet, a.written, a.since = true, 0, 0, s.log
	a.credit = max(a.credit, 1)
	a.next = root{seq: s.seq, gen: a.root.gen + 1}
	for k, b := range s.open {
		if b >= 0 {
			a.next.has[k] = true
			a.next.open[k] = smap.Place{Block: b, Page: s.Flash().Next(b)}
		}
	}
}

// step writes one sheet, or the end of the map. Each map has all parts anew, so that what lay there ahead of it can go as a whole.
func (s *engine) step() api.Errno {
	a := &s.maps
	if a.sheet == len(a.sheets) {
		return s.finish()
	}
	m, n := a.sheets[a.sheet], a.sheet
	old := slices.Clone(a.parts[n])
	if e := m.Flush(); e != api.OK {
		return e
	}
	for i, c := range old {
		if c == 0 || a.parts[n][i] != c {
			continue
		}
		at := placeOf(c)
		b, e := s.Media.Read(at.Block, at.Page)
		if e != api.OK {
			return e
		}
		p, e := s.appendMap(head{kind: partPage, index: n*perMap + i}, b[headSize:])
		if e != api.OK {
			return e
		}
		a.parts[n][i] = code(p)
		m.Moved(i, p)
	}
	a.sheet++
	return api.OK
}

// finish writes the directory, and then the root that makes all of it count.
func (s *engine) finish() api.Errno {
	a := &s.maps
	var dir []byte
	for _, m := range a.sheets {
		dir = append(dir, m.Directory()...)
	}
	a.next.dirs = nil
	for i := 0; i*a.sector < len(dir); i++ {
		p, e := s.appendMap(head{kind: dirPage, index: i}, dir[i*a.sector:min((i+1)*a.sector, len(dir))])
		if e != api.OK {
			return e
		}
		a.next.dirs = append(a.next.dirs, p)
	}
	a.next.erases = s.erases
	if e := s.keep(rootKey, a.next.pack()); e != api.OK {
		return e
	}
	s.kept = max(s.kept, a.next.erases)
	s.log -= a.since
	a.root, a.busy, a.credit = a.next, false, 0
	for b := range s.blocks {
		if s.blocks[b].kind == isMap && s.blocks[b].gen < a.root.gen && b != a.open {
			s.blocks[b].kind = isFree
		}
		s.settle(b)
	}
	return api.OK
}

// writeMap writes a whole map at once.
func (s *engine) writeMap() api.Errno {
	if !s.maps.busy {
		s.begin()
	}
	for s.maps.busy {
		if e := s.step(); e != api.OK {
			return e
		}
	}
	return api.OK
}
