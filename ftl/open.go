package ftl

import (
	"cmp"
	"slices"

	"locket/api"
	"locket/geom"
	"locket/media"
	"locket/smap"
)

// opening is what is gathered while a store is opened.
type opening struct {
	*engine
	first []head // of each block's first page
	own   []bool // it is one of a store
	cand  []int  // blocks that may hold records
	found []entry
}

// entry is a page of the log that the map on the flash does not have.
type entry struct {
	head
	at   smap.Place
	runs []run
}

// Open is the store that lies there.
func Open(c api.Config, m *media.Media) (*Store, error) {
	if !fits(c, m) {
		return nil, &fault{"open", api.ErrArg}
	}
	s := newEngine(c, m)
	_, _, before, _ := m.Flash().Count()
	if e := s.restore(); e != api.OK {
		return nil, &fault{"open", e}
	}
	_, _, after, _ := m.Flash().Count()
	s.loads = after - before
	return &Store{s}, nil
}

func (s *engine) restore() api.Errno {
	if s.Flash().Off() {
		return api.ErrDown
	}
	o := &opening{engine: s, first: make([]head, len(s.blocks)), own: make([]bool, len(s.blocks))}
	for _, step := range []func() api.Errno{o.look, o.records, o.sheets, o.replay, o.recall} {
		if e := step(); e != api.OK {
			return e
		}
	}
	o.count()
	o.goOn()
	if e := o.claim(); e != api.OK {
		return e
	}
	if s.log >= s.limit() {
		return s.writeMap()
	}
	return api.OK
}

// look reads the first page of each block.
func (o *opening) look() api.Errno {
	for b := range o.blocks {
		if o.Flash().Next(b) <= 0 {
			continue
		}
		data, e := o.Media.Read(b, 0)
		if e == api.ErrDown {
			return e
		}
		if e != api.OK {
			continue
		}
		o.first[b], o.own[b] = unpack(data)
		if !o.own[b] {
			o.cand = append(o.cand, b)
		}
	}
	return api.OK
}

// records reads the records, and takes the root out of them. Which blocks are free for them to be written to is found out later.
func (o *opening) records() api.Errno {
	l := slices.Clone(o.cand)
	for b := 0; len(l) < minRecs; b++ {
		if !slices.Contains(l, b) {
			l = append(l, b)
		}
	}
	if e := o.reopen(l); e != api.OK {
		return e
	}
	shape, _ := o.small.Get(shapeKey)
	if c, e := geom.Decode(shape); e != api.OK || c != o.c {
		return api.ErrLost
	}
	b, _ := o.small.Get(rootKey)
	r, ok := unpackRoot(b)
	if !ok {
		return api.ErrLost
	}
	o.maps.root, o.erases, o.seq = r, r.erases, r.seq
	return api.OK
}

// sheets loads the map that the root tells of.
func (o *opening) sheets() api.Errno {
	var dirs []byte
	for i, p := range o.maps.root.dirs {
		b, e := o.Media.Read(p.Block, p.Page)
		if e == api.ErrDown {
			return e
		}
		h, ok := unpack(b)
		if e != api.OK || !ok || h.kind != dirPage || h.index != i {
			return api.ErrLost
		}
		dirs = append(dirs, b[headSize:]...)
	}
	switch e := o.draw(dirs); e {
	case api.OK:
	case api.ErrDown:
		return e
	default:
		return api.ErrLost
	}
	o.loadBits()
	return api.OK
}

// from tells from which page on a block's pages belong to the log; false, if none does.
func (o *opening) from(b int) (int, bool) {
	if !o.own[b] || o.first[b].kind != dataPage && o.first[b].kind != clearPage {
		return 0, false
	}
	if o.first[b].seq > o.maps.root.seq {
		return 0, true
	}
	for k, p := range o.maps.root.open {
		if o.maps.root.has[k] && p.Block == b {
			return p.Page, true
		}
	}
	return 0, false
}

// replay adds to the map what the log holds beyond it, in the order in which it was written.
func (o *opening) replay() api.Errno {
	for b := range o.blocks {
		from, ok := o.from(b)
		if !ok {
			continue
		}
		for page := from; page < o.Flash().Next(b); page++ {
			if e := o.gather(smap.Place{Block: b, Page: page}); e != api.OK {
				return e
			}
		}
	}
	slices.SortFunc(o.found, func(a, b entry) int { return cmp.Compare(a.seq, b.seq) })
log:
	for i := 0; i < len(o.found); {
		n := max(1, int(o.found[i].group))
		for k := range n {
			// A group of which a page is missing was cut: none of it counts.
			if i+k >= len(o.found) || !together(o.found[i], o.found[i+k], k) {
				i++
				continue log
			}
		}
		for _, x := range o.found[i : i+n] {
			o.apply(x)
		}
		i += n
	}
	return api.OK
}

// together tells whether b is the k-th page of the group that a begins.
func together(a, b entry, k int) bool {
	return b.seq == a.seq+uint64(k) && int(b.turn) == k && b.group == a.group
}

// gather reads a page of the log; one that was cut is one all the same.
func (o *opening) gather(p smap.Place) api.Errno {
	o.log++
	x := entry{head: o.first[p.Block], at: p}
	if p.Page > 0 || x.kind == clearPage {
		data, e := o.Media.Read(p.Block, p.Page)
		if e == api.ErrDown {
			return e
		}
		h, ok := unpack(data)
		if e != api.OK || !ok {
			return api.OK
		}
		x.head = h
		if h.kind == clearPage {
			x.runs = unpackRuns(data[headSize:], int(h.runs))
		}
	}
	o.seq = max(o.seq, x.seq)
	o.erases = max(o.erases, x.erases)
	if x.seq > o.maps.root.seq {
		o.found = append(o.found, x)
	}
	return api.OK
}

func (o *opening) apply(x entry) {
	if x.kind == clearPage || x.group > 1 {
		o.blocks[x.at.Block].pin = max(o.blocks[x.at.Block].pin, x.seq)
	}
	if x.kind == dataPage && x.index < o.sectors+records {
		o.maps.set(x.index, x.at)
	}
	for _, r := range x.runs {
		for i := r.first; i < min(r.first+r.count, o.sectors); i++ {
			o.maps.clear(i)
		}
	}
}

// recall reads the small records.
func (o *opening) recall() api.Errno {
	for key := range records {
		if _, ok := o.maps.place(o.sectors + key); !ok {
			continue
		}
		b, e := o.read(o.sectors + key)
		if e == api.ErrDown {
			return e
		}
		if e != api.OK || int(b[0]) > maxRecord {
			return api.ErrLost
		}
		o.adopt(key, b[1:1+int(b[0])])
	}
	return api.OK
}

// count finds out what each block is.
func (o *opening) count() {
	for i := range o.sectors + records {
		if p, ok := o.maps.place(i); ok {
			o.blocks[p.Block].live++
			o.be(p.Block, isData)
		}
	}
	for _, sheet := range o.maps.parts {
		for _, c := range sheet {
			if c != 0 {
				o.ofMap(placeOf(c))
			}
		}
	}
	for _, p := range o.maps.root.dirs {
		o.ofMap(p)
	}
	known, sum := 0, uint64(0)
	for b, h := range o.first {
		o.seq = max(o.seq, h.seq)
		o.erases = max(o.erases, h.erases)
		if o.blocks[b].pin > 0 {
			o.be(b, isData)
		}
		if o.own[b] {
			o.blocks[b].worn = int32(h.worn)
			known, sum = known+1, sum+uint64(h.worn)
		}
	}
	o.kept = o.erases
	// Blocks that do not tell how often they were erased share what the others leave.
	if left := len(o.blocks) - known; left > 0 && o.erases > sum {
		for b := range o.blocks {
			if !o.own[b] {
				o.blocks[b].worn = int32(int(o.erases-sum) / left)
			}
		}
	}
}

// claim gives the records their blocks: those in which they were found, and free ones, if these are too few.
func (o *opening) claim() api.Errno {
	for _, b := range o.cand {
		o.be(b, isRec)
	}
	l := o.pad(o.cand)
	for _, b := range l {
		o.be(b, isRec)
	}
	o.recAt = l
	return o.reopen(l)
}

func (o *opening) be(b int, kind byte) {
	if o.blocks[b].kind != isBad {
		o.blocks[b].kind = kind
	}
}

func (o *opening) ofMap(p smap.Place) {
	o.be(p.Block, isMap)
	o.blocks[p.Block].gen = o.maps.root.gen
}

// goOn finds the blocks that are written further: such as the next opening will look into, too.
func (o *opening) goOn() {
	var late [2]uint64
	for b := range o.blocks {
		if _, ok := o.from(b); !ok || o.Media.Room(b) == 0 || o.blocks[b].kind != isData && o.blocks[b].kind != isFree {
			continue
		}
		k := 0
		if o.Flash().One(b) {
			k = 1
		}
		if seq := o.first[b].seq; seq >= late[k] {
			late[k], o.open[k] = seq, b
		}
	}
	for _, b := range o.open {
		if b >= 0 {
			o.blocks[b].kind = isData
		}
	}
	if n := len(o.maps.root.dirs); n > 0 {
		if b := o.maps.root.dirs[n-1].Block; o.Media.Room(b) > 0 && o.blocks[b].kind == isMap {
			o.maps.open = b
		}
	}
}
