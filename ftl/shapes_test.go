package ftl_test

import (
	"math/rand"
	"testing"

	"locket/api"
	"locket/ftl"
	"locket/geom"
)

func randShape(r *rand.Rand) (api.Config, int) {
	for {
		c := api.Config{Pages: 4 + 2*r.Intn(16), Sector: 128 + 64*r.Intn(6), Boot: 1 + r.Intn(20), Rpa: 1 + r.Intn(20), Spare: r.Intn(12)}
		c.Group = 1 + r.Intn(16)
		c.User = c.Group * (1 + r.Intn(32))
		e := 0
		if r.Intn(2) == 0 {
			e = r.Intn(c.User)
		}
		c.Blocks = geom.Need(c, 0)
		c.Blocks = max(c.Blocks, geom.Need(c, e))
		if geom.Check(c) == api.OK {
			return c, e
		}
	}
}

// TestShapes fills cards of shapes at random that have no block more than they need.
func TestShapes(t *testing.T) { // P1103, P1104
	for seed := range int64(12) {
		r := rand.New(rand.NewSource(seed))
		c, e := randShape(r)
		b := newBench(t, c, seed, func(i int) bool { return i >= c.User || i < e })
		hot := r.Intn(3) * 45
		for i := range b.s.Sectors() {
			b.write(false, ftl.Put{Sector: i, Data: b.bytes()})
		}
		cuts := r.Intn(2) == 0
		for i := range 2500 {
			if b.fails < c.Spare && r.Intn(200) == 0 {
				if r.Intn(3) == 0 {
					for n := range c.Blocks {
						if k, _ := b.s.Uses(n); k == 1+r.Intn(3) && !b.f.Failed(n) && b.fails < c.Spare {
							b.f.Fail(n)
							b.fails++
						}
					}
				} else if n := r.Intn(c.Blocks); !b.f.Failed(n) {
					b.f.Fail(n)
					b.fails++
				}
			}
			if cuts && r.Intn(20) == 0 {
				b.f.Arm(1 + b.r.Intn(90))
			}
			b.step(hot)
			if i%600 == 599 {
				b.f.Cut()
				b.open()
				b.look()
			}
		}
		b.f.Cut()
		b.open()
		b.look()
	}
}
