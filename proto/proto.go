// Package proto: what a card does with commands and blocks, whatever its sectors lie on. The abstract card (model) and the card on flash (core) are this over two kinds of stores. See doc/20-model.md.
package proto

import (
	"locket/api"
	"locket/areas"
	"locket/frame"
	"locket/guard"
	"locket/phase"
	"locket/regs"
	"locket/rpa"
	"locket/token"
	"locket/vcache"
)

// Put is a sector's new bytes, by its place.
type Put struct {
	Place int
	Data  []byte
}

// Store is what a card's sectors, and what else lasts, lie on. What it cannot do it answers by false.
type Store interface {
	Read(place int) ([]byte, bool)
	Write(l []Put) bool                               // one behind the other, for good
	Clear(places []int, loose bool) bool              // they are all 0; loose: or what they were
	Touch(place int)                                  // it is written, if only to the cache
	Keep(r *regs.File, g *guard.Guard) bool           // what of them lasts
	Keyed(s rpa.Step, place int, next rpa.State) bool // a step of the keyed area, and its state behind it
	Work() bool                                       // background work
	Health() (life, debt byte)
	Down() bool // the power has gone
}

// Lasting is what a card is made with.
type Lasting struct {
	Regs  *regs.File
	Guard *guard.Guard
	Areas *areas.Table
	Rpa   rpa.State
}

const (
	ready   = 0x80FF8080 // what OpCond answers
	stateAt = 9          // bit of a status
	cell    = 64         // bytes of a place of the keyed area
)

// Card is one over a store.
type Card struct {
	*phase.Machine
	c     api.Config
	store Store
	regs  *regs.File
	guard *guard.Guard
	areas *areas.Table
	cache *vcache.Cache
	keyed *rpa.Area
	bits  uint32 // error bits that have come up
	said  count
	span  span
	job   job
}

// count is what SetCount said.
type count struct {
	n        int
	reliable bool
	packed   bool
}

// span is what EraseFrom and EraseTo said.
type span struct {
	from, to       int
	hasFrom, hasTo bool
}

// job is what a write command waits for.
type job struct {
	area     int
	sectors  []int // those of the blocks that come
	reliable bool
	head     bool // a head comes first, that says the sectors
	blocks   int
}

// New is a card that is powered up; false, if its shape is not right.
func New(c api.Config, s Store, l Lasting) (*Card, bool) {
	cache, e := vcache.New(c.Cache)
	if e != api.OK {
		return nil, false
	}
	k := &Card{c: c, store: s, regs: l.Regs, guard: l.Guard, areas: l.Areas, cache: cache}
	return k, k.start(l.Rpa)
}

// start forgets all that does not last.
func (k *Card) start(s rpa.State) bool {
	area, e := rpa.New(k.c.Rpa, s)
	if e != api.OK {
		return false
	}
	k.Machine, k.keyed = phase.New(), area
	k.bits, k.said, k.span, k.job = 0, count{}, span{}, job{}
	k.cache.Clear()
	on := byte(0)
	if k.areas.Active() {
		on = 1
	}
	k.regs.Show(api.RPartOn, on)
	return true
}

// PowerUp is what the power's going and coming back does.
func (k *Card) PowerUp() {
	k.regs.PowerUp()
	k.guard.PowerUp()
	k.areas = k.areas.PowerUp()
	k.start(k.keyed.State())
}

// raise lets error bits come up.
func (k *Card) raise(bits uint32) { k.bits |= bits }

// done raises BFail where a store could not do what it was to do.
func (k *Card) done(ok bool) bool {
	if !ok {
		k.raise(api.BFail)
	}
	return ok
}

// Command takes a command.
func (k *Card) Command(c frame.Command, good bool) api.Answer {
	if k.store.Down() {
		return api.Answer{None: true}
	}
	if !good {
		k.raise(api.BCrc)
		return api.Answer{None: true}
	}
	answers, ok := k.Go(c.Index, c.Argument)
	if !ok {
		k.raise(api.BIllegal)
		return api.Answer{None: true}
	}
	said := k.said
	k.said = count{}
	switch c.Index {
	case api.EraseFrom, api.EraseTo, api.Erase, api.Status:
	default:
		k.span = span{}
	}
	blocks := k.act(c.Index, c.Argument, said)
	if k.store.Down() || !answers {
		return api.Answer{None: true}
	}
	return k.answer(c.Index, blocks)
}

func (k *Card) answer(index int, blocks [][]byte) api.Answer {
	switch index {
	case api.OpCond:
		return api.Answer{Status: ready}
	case api.AllCid:
		return api.Answer{Long: Cid()}
	case api.SendCsd:
		return api.Answer{Long: Csd(k.c)}
	}
	status := uint32(k.State())<<stateAt | api.BReady | k.bits
	k.bits = 0
	return api.Answer{Status: status, Blocks: blocks}
}

// act does what a command asks for, and tells the blocks that it answers.
func (k *Card) act(index int, argument uint32, said count) [][]byte {
	switch index {
	case api.Switch:
		k.change(argument)
	case api.SendRegs:
		b := k.Regs()
		return k.block(b[:])
	case api.ReadOne:
		said = count{}
		fallthrough
	case api.ReadMany:
		return k.read(int(argument), max(1, said.n))
	case api.SetCount:
		k.setCount(argument)
	case api.WriteOne:
		said = count{}
		fallthrough
	case api.WriteMany:
		k.begin(int(argument), said)
	case api.SetGuard, api.ClrGuard, api.SendGuard:
		return k.protect(index, int(argument))
	case api.EraseFrom:
		k.eraseFrom(int(argument))
	case api.EraseTo:
		k.eraseTo(int(argument))
	case api.Erase:
		k.erase(argument)
	}
	return nil
}

// block is one block, with bytes 0 behind.
func (k *Card) block(b []byte) [][]byte { return [][]byte{k.padded(b)} }

func (k *Card) padded(b []byte) []byte {
	out := make([]byte, k.c.Sector)
	copy(out, b)
	return out
}

func (k *Card) area() int { return int(k.regs.Get(api.RArea)) }

// inside tells whether n sectors of an area, from one on, are there.
func (k *Card) inside(area, sector, n int) bool { return sector+n <= k.areas.Size(area) }

// grouped tells whether an area has groups that can be protected.
func grouped(area int) bool { return area == api.User || area >= api.Gen0 }

// read answers sectors.
func (k *Card) read(from, n int) [][]byte {
	area := k.area()
	if area == api.Rpa && n == 1 {
		b := rpa.Encode(k.keyed.Answer(k.cell))
		return k.block(b[:])
	}
	if area == api.Rpa || !k.inside(area, from, n) {
		k.raise(api.BRange)
		return nil
	}
	var out [][]byte
	for i := range n {
		b, ok := k.Look(area, from+i)
		if !k.done(ok) {
			return nil
		}
		out = append(out, b)
	}
	return out
}

// cell is a place of the keyed area.
func (k *Card) cell(addr int) (out [cell]byte, ok bool) {
	place, ok := k.areas.Place(api.Rpa, addr)
	if !ok {
		return out, false
	}
	b, ok := k.store.Read(place)
	if ok {
		copy(out[:], b)
	}
	return out, ok
}

// Look tells what a sector of an area holds, cached writes counted.
func (k *Card) Look(area, sector int) ([]byte, bool) {
	if b, ok := k.cache.Get(area, sector); ok {
		return b, true
	}
	place, ok := k.areas.Place(area, sector)
	if !ok {
		return nil, false
	}
	b, ok := k.store.Read(place)
	if ok && area == api.Rpa {
		b = k.padded(b[:cell])
	}
	return b, ok
}

func (k *Card) setCount(argument uint32) {
	n := int(argument & 0xFFFF)
	if n < 1 || n > api.MaxCount {
		k.raise(api.BRange)
		return
	}
	k.said = count{n: n, reliable: argument>>31&1 == 1, packed: argument>>30&1 == 1}
}

// begin is a write command's: so many blocks are waited for.
func (k *Card) begin(from int, said count) {
	n, area := max(1, said.n), k.area()
	may := k.inside(area, from, n) && (area != api.Rpa || n == 1)
	if said.packed {
		may = grouped(area) && n > 1
	}
	if !may {
		k.raise(api.BRange)
		k.end()
		return
	}
	k.job = job{area: area, reliable: said.reliable, head: said.packed, blocks: n}
	for i := range n {
		k.job.sectors = append(k.job.sectors, from+i)
	}
	k.Receive(n)
}

// end ends a write command.
func (k *Card) end() {
	for k.Got() {
	}
	k.job = job{}
}

// Data takes a block.
func (k *Card) Data(b []byte, good bool) byte {
	if k.store.Down() || k.State() != api.SRecv {
		return token.Fail
	}
	if len(b) != k.c.Sector || !good {
		k.end()
		return token.Wrong
	}
	ok := true
	switch {
	case k.job.head:
		ok = k.takeHead(b)
	case k.job.area == api.Rpa:
		k.Got()
		ok = k.takeKeyed(b)
	default:
		sector := k.job.sectors[0]
		k.job.sectors = k.job.sectors[1:]
		k.Got()
		ok = k.takeSector(sector, b)
	}
	if !ok || k.store.Down() {
		return token.Fail
	}
	return token.Good
}

// State, Regs, Rpa, Cached tell what can be seen of it.

// Regs are the registers.
func (k *Card) Regs() regs.Bytes {
	life, debt := k.store.Health()
	k.regs.Show(api.RLife, life)
	k.regs.Show(api.RDebt, debt)
	return k.regs.Bytes()
}

// Rpa is the state of the keyed area.
func (k *Card) Rpa() rpa.State { return k.keyed.State() }

// Areas are the areas.
func (k *Card) Areas() *areas.Table { return k.areas }

// Cached are the writes in the cache, group by group.
func (k *Card) Cached() [][]api.Write {
	var out [][]api.Write
	for g, w := range k.cache.All() {
		if g == len(out) {
			out = append(out, nil)
		}
		out[g] = append(out[g], w)
	}
	return out
}
