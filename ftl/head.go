package ftl

import (
	"locket/api"
	"locket/smap"
)

const (
	headSize = 64 // bytes of a page ahead of its sector's
	magic    = "ftl\x01"
	runSize  = 8
)

// Kinds of pages.
const (
	dataPage  = 1 // a sector, or a small record
	clearPage = 2 // which sectors are all 0 from here on
	partPage  = 3 // a part of the map
	dirPage   = 4 // where parts lie
)

// head is what a page says of itself.
type head struct {
	kind   byte
	turn   byte // which one of its group it is
	group  byte // how many pages hold together
	runs   byte // of a clearPage
	seq    uint64
	index  int
	worn   int    // erases of its block
	erases uint64 // of all blocks
}

// pack makes a page's bytes.
func (h head) pack(payload []byte, sector int) []byte {
	b := make([]byte, headSize+sector)
	copy(b, magic)
	b[4], b[5], b[6], b[7] = h.kind, h.turn, h.group, h.runs
	putNumber(b[8:16], h.seq)
	putNumber(b[16:20], uint64(h.index))
	putNumber(b[20:24], uint64(h.worn))
	putNumber(b[24:32], h.erases)
	copy(b[headSize:], payload)
	return b
}

// unpack tells a page's head; false, if it is none of a store.
func unpack(b []byte) (head, bool) {
	if len(b) < headSize || string(b[:len(magic)]) != magic {
		return head{}, false
	}
	return head{
		kind: b[4], turn: b[5], group: b[6], runs: b[7],
		seq:    number(b[8:16]),
		index:  int(number(b[16:20])),
		worn:   int(number(b[20:24])),
		erases: number(b[24:32]),
	}, true
}

func putNumber(b []byte, n uint64) {
	for i := range b {
		b[i] = byte(n >> (8 * i))
	}
}

func number(b []byte) uint64 {
	var n uint64
	for i, x := range b {
		n |= uint64(x) << (8 * i)
	}
	return n
}

// run is some sectors that follow one another.
type run struct{ first, count int }

func packRuns(l []run) []byte {
	b := make([]byte, runSize*len(l))
	for i, r := range l {
		putNumber(b[runSize*i:runSize*i+4], uint64(r.first))
		putNumber(b[runSize*i+4:runSize*i+8], uint64(r.count))
	}
	return b
}

func unpackRuns(b []byte, n int) []run {
	var out []run
	for i := 0; i < n && runSize*(i+1) <= len(b); i++ {
		out = append(out, run{int(number(b[runSize*i : runSize*i+4])), int(number(b[runSize*i+4 : runSize*i+8]))})
	}
	return out
}

// A place as a number: 0 is none.
func code(p smap.Place) uint32 { return uint32(p.Block*api.MaxPages+p.Page) + 1 }

func placeOf(c uint32) smap.Place {
	return smap.Place{Block: int(c-1) / api.MaxPages, Page: int(c-1) % api.MaxPages}
}

// root is what a finished map begins with.
type root struct {
	seq    uint64 // pages up to this one are in the map
	gen    uint64
	erases uint64
	open   [2]smap.Place // the blocks that were written then, and from which page on what they hold is newer
	has    [2]bool
	dirs   []smap.Place
}

const rootSize = 8 + 8 + 8 + 2*4 + 4

func (r root) pack() []byte {
	b := make([]byte, rootSize+4*len(r.dirs))
	putNumber(b[0:8], r.seq)
	putNumber(b[8:16], r.gen)
	putNumber(b[16:24], r.erases)
	for k, p := range r.open {
		if r.has[k] {
			// The page may be one past the last one, so that it is no place by itself.
			putNumber(b[24+4*k:28+4*k], uint64(p.Block)<<16|uint64(p.Page)<<1|1)
		}
	}
	putNumber(b[32:36], uint64(len(r.dirs)))
	for i, p := range r.dirs {
		putNumber(b[rootSize+4*i:rootSize+4*i+4], uint64(code(p)))
	}
	return b
}

func unpackRoot(b []byte) (root, bool) {
	if len(b) < rootSize || len(b) != rootSize+4*int(number(b[32:36])) {
		return root{}, false
	}
	r := root{seq: number(b[0:8]), gen: number(b[8:16]), erases: number(b[16:24])}
	for k := range r.open {
		n := int(number(b[24+4*k : 28+4*k]))
		r.has[k] = n&1 == 1
		if r.has[k] {
			r.open[k] = smap.Place{Block: n >> 16, Page: n >> 1 & 0x7FFF}
		}
	}
	for i := rootSize; i < len(b); i += 4 {
		r.dirs = append(r.dirs, placeOf(uint32(number(b[i:i+4]))))
	}
	return r, true
}
