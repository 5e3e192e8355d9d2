package vcache_test

import (
	"fmt"
	"testing"

	"locket/api"
	"locket/vcache"
)

func cache(t *testing.T, most int) *vcache.Cache {
	t.Helper()
	c, e := vcache.New(most)
	if e != api.OK {
		t.Fatal(e)
	}
	return c
}

func w(sector int, s string) api.Write {
	return api.Write{Area: 4, Sector: sector, Data: []byte(s)}
}

func said(l []api.Write) string {
	out := ""
	for _, x := range l {
		out += fmt.Sprintf("%d.%d%s ", x.Area, x.Sector, x.Data)
	}
	return out
}

func all(c *vcache.Cache) string {
	out := ""
	for g, x := range c.All() {
		out += fmt.Sprintf("%d:%d%s ", g, x.Sector, x.Data)
	}
	return out
}

func eq(t *testing.T, what, got, want string) {
	t.Helper()
	if got != want {
		t.Errorf("%s: %q, not %q", what, got, want)
	}
}

func TestNew(t *testing.T) { // P1201
	for _, n := range []int{-1, 65} {
		if c, e := vcache.New(n); c != nil || e != api.ErrArg {
			t.Errorf("most %d: %v", n, e)
		}
	}
	c := cache(t, 64)
	if _, ok := c.Get(0, 0); ok || c.Len() != 0 || c.Groups() != 0 || c.Drop(0, 0) || len(c.Flush()) != 0 {
		t.Error("a new cache")
	}
}

func TestPut(t *testing.T) { // P1201, P1203
	c := cache(t, 3)
	b := w(1, "a")
	eq(t, "put", said(c.Put(b)), "")
	b.Data[0] = 'x'
	c.Put(w(2, "b"))
	eq(t, "in the group", said(c.Put(w(1, "c"))), "")
	eq(t, "in the group", all(c), "0:2b 0:1c ")
	c.Barrier()
	eq(t, "another group", said(c.Put(w(1, "d"))), "")
	eq(t, "another group", all(c), "0:2b 0:1c 1:1d ")
	eq(t, "the eldest", said(c.Put(w(3, "e"))), "4.2b ")
	got, ok := c.Get(4, 1)
	eq(t, "newest", string(got), "d")
	got[0] = 'x'
	if _, other := c.Get(0, 1); !ok || other {
		t.Error("Get")
	}
	eq(t, "the eldest", said(c.Put(w(3, "f"))), "")
	eq(t, "the eldest", said(c.Put(w(4, "g"))), "4.1c ")
	eq(t, "all", all(c), "0:1d 0:3f 0:4g ")
	if c.Groups() != 1 || c.Len() != 3 {
		t.Error("counts")
	}
	if !c.Drop(4, 3) || c.Drop(4, 3) {
		t.Error("Drop")
	}
	eq(t, "dropped", all(c), "0:1d 0:4g ")
	eq(t, "flush", said(c.Flush()), "4.1d 4.4g ")
	if c.Len() != 0 {
		t.Error("flushed")
	}
}

func TestNone(t *testing.T) { // P1201
	c := cache(t, 0)
	eq(t, "most 0", said(c.Put(w(1, "a"))), "4.1a ")
	if _, ok := c.Get(4, 1); ok || c.Len() != 0 {
		t.Error("it stays")
	}
}

func TestGroups(t *testing.T) { // P1202
	c := cache(t, 8)
	c.Barrier()
	c.Put(w(1, "a"))
	c.Barrier()
	c.Barrier()
	c.Put(w(1, "b"))
	c.Barrier()
	c.Put(w(1, "c"))
	eq(t, "three", all(c), "0:1a 1:1b 2:1c ")
	if c.Groups() != 3 {
		t.Error(c.Groups())
	}
	seq := c.All()
	c.Drop(4, 1)
	c.Put(w(2, "d"))
	for range 2 {
		n := 0
		for g, x := range seq {
			if g != n || x.Sector != 1 {
				t.Error("a sequence goes over what was")
			}
			x.Data[0] = 'x'
			if n++; n == 2 {
				break
			}
		}
	}
	c.Put(w(3, "e"))
	c.Drop(4, 3)
	c.Drop(4, 2)
	c.Barrier()
	c.Put(w(1, "f"))
	eq(t, "a group that has lost all", all(c), "0:1f ")
	c.Clear()
	if _, ok := c.Get(4, 1); ok || c.Len() != 0 || c.Groups() != 0 {
		t.Error("cleared")
	}
	c.Put(w(9, "g"))
	eq(t, "behind Clear", all(c), "0:9g ")
}
