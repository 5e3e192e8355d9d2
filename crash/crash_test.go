package crash_test

import (
	"math"
	"slices"
	"testing"

	"locket/api"
	"locket/crash"
)

func state(t *testing.T) *crash.State {
	t.Helper()
	s, e := crash.New(4, 2)
	if e != api.OK {
		t.Fatal(e)
	}
	return s
}

func w(place int, s string) api.Write { return api.Write{Area: 7, Sector: place, Data: []byte(s)} }

// says is a read of some places.
func says(m map[int]string) func(int) []byte {
	return func(p int) []byte { return []byte(m[p]) }
}

func may(t *testing.T, what string, s *crash.State, want bool, m map[int]string) {
	t.Helper()
	if s.May(says(m)) != want {
		t.Errorf("%s: not %v", what, want)
	}
}

func values(t *testing.T, what string, s *crash.State, place int, want ...string) {
	t.Helper()
	if got := slices.Collect(s.Values(place)); !slices.Equal(got, want) {
		t.Errorf("%s: %q, not %q", what, got, want)
	}
}

const zero = "\x00\x00"

func TestNew(t *testing.T) { // P2101
	for _, x := range [][2]int{{0, 1}, {1<<14 + 1, 1}, {1, 0}, {1, 513}, {-1, -1}} {
		if s, e := crash.New(x[0], x[1]); s != nil || e != api.ErrArg {
			t.Errorf("%v: %v", x, e)
		}
	}
	crash.New(1<<14, 512)
	s := state(t)
	may(t, "all 0", s, true, map[int]string{0: zero, 3: zero})
	may(t, "not 0", s, false, map[int]string{1: "aa"})
	may(t, "length", s, false, map[int]string{1: "\x00"})
	may(t, "passed over", s, true, nil)
	if s.Levels() != 1 {
		t.Error(s.Levels())
	}
}

func TestDurable(t *testing.T) { // P2101, P2102
	s := state(t)
	b := w(1, "aa")
	s.Durable(w(1, "xx"), b, w(4, "bb"), w(-1, "bb"), w(2, "b"), w(2, "bbb"), w(2, ""))
	b.Data[0] = 'z'
	values(t, "lasts", s, 1, "aa")
	values(t, "passed over", s, 2, zero)
	for _, p := range []int{-1, 4, math.MaxInt} {
		s.Loose(p)
		values(t, "no place", s, p)
	}
	s.Loose(1)
	values(t, "loose", s, 1, zero, "aa")
	may(t, "loose", s, true, map[int]string{1: zero})
	s.Durable(w(1, "cc"))
	values(t, "no more", s, 1, "cc")
}

func TestLevels(t *testing.T) { // P2102
	s := state(t)
	s.Durable(w(0, "a0"), w(1, "a1"), w(2, "a2"))
	s.Cached([]api.Write{w(0, "b0"), w(0, "c0"), w(1, "b1")}, nil, []api.Write{w(1, "d1"), w(2, "d2"), w(9, "xx")})
	if s.Levels() != 4 {
		t.Error(s.Levels())
	}
	values(t, "place 0", s, 0, "a0", "b0", "c0")
	values(t, "place 1", s, 1, "a1", "b1", "d1")
	values(t, "place 2", s, 2, "a2", "d2")
	may(t, "level 0", s, true, map[int]string{0: "b0", 1: "a1", 2: "a2"})
	may(t, "level 0", s, true, map[int]string{0: "a0", 1: "b1"})
	may(t, "level 1", s, true, map[int]string{0: "c0", 1: "b1", 2: "a2"})
	may(t, "a later group ahead of the first one's end", s, false, map[int]string{0: "b0", 2: "d2"})
	may(t, "a later group ahead of the first one's end", s, false, map[int]string{1: "a1", 2: "d2"})
	may(t, "level 2", s, true, map[int]string{0: "c0", 1: "b1", 2: "d2"})
	may(t, "level 3", s, true, map[int]string{0: "c0", 1: "d1", 2: "d2"})
	may(t, "level 2", s, true, map[int]string{1: "d1", 2: "a2"})
	s.Flight(w(0, "f0"), w(0, "g0"), w(3, "f3"), w(3, "long"))
	may(t, "in flight", s, true, map[int]string{0: "f0", 1: "d1", 2: "d2", 3: zero})
	values(t, "in flight", s, 3, zero, "f3")
	s.Flight()
	may(t, "in place of what was", s, false, map[int]string{0: "f0"})
	s.Cached([]api.Write{w(2, "e2")})
	values(t, "in place of what it held", s, 1, "a1")
	values(t, "in place of what it held", s, 2, "a2", "e2")
}

func TestLoose(t *testing.T) { // P2102
	s := state(t)
	s.Durable(w(0, "a0"), w(1, "a1"))
	s.Loose(0)
	s.Cached([]api.Write{w(0, "b0")}, []api.Write{w(1, "b1")})
	values(t, "loose", s, 0, zero, "a0", "b0")
	may(t, "level 0", s, true, map[int]string{0: zero, 1: "a1"})
	may(t, "written ahead", s, false, map[int]string{0: zero, 1: "b1"})
	may(t, "level 1", s, true, map[int]string{0: "b0", 1: "b1"})
}

func TestSettle(t *testing.T) { // P2102, P7
	s := state(t)
	s.Durable(w(0, "a0"), w(1, "a1"))
	s.Loose(1)
	s.Cached([]api.Write{w(0, "b0")})
	s.Flight(w(2, "f2"))
	if s.Settle(says(map[int]string{0: "b0", 2: "xx"})) {
		t.Error("it may not be")
	}
	values(t, "nothing has changed", s, 0, "a0", "b0")
	seq := s.Values(0)
	if !s.Settle(says(map[int]string{0: "b0", 2: "f2"})) || s.Levels() != 1 {
		t.Error("it may be")
	}
	values(t, "settled", s, 0, "b0")
	values(t, "passed over", s, 1, "a1")
	values(t, "settled", s, 2, "f2")
	for range 2 {
		n := 0
		for v := range seq {
			if n++; v != "a0" {
				t.Error("a sequence goes over what was")
			}
			break
		}
	}
}
