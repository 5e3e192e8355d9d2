package wear_test

import (
	"math"
	"testing"

	"locket/wear"
)

func blk(n, live, pages, worn int) wear.Block {
	return wear.Block{N: n, Live: live, Pages: pages, Worn: worn}
}

func TestRight(t *testing.T) { // P801
	for _, b := range []wear.Block{blk(0, 0, 1, 0), blk(5, 256, 256, 1<<30), blk(math.MaxInt, 3, 4, 9)} {
		if !wear.Right(b) {
			t.Errorf("%+v is right", b)
		}
	}
	for _, b := range []wear.Block{{}, blk(-1, 0, 1, 0), blk(0, 0, 0, 0), blk(0, 0, 257, 0), blk(0, -1, 4, 0), blk(0, 5, 4, 0), blk(0, 0, 4, -1), blk(0, 0, 4, 1<<30+1)} {
		if wear.Right(b) {
			t.Errorf("%+v is not", b)
		}
	}
}

type choice func(l ...wear.Block) (int, bool)

func says(t *testing.T, what string, f choice, n int, ok bool, l ...wear.Block) {
	t.Helper()
	if m, k := f(l...); m != n || k != ok {
		t.Errorf("%s: %d %v, not %d %v", what, m, k, n, ok)
	}
}

func TestVictim(t *testing.T) { // P801
	open, bad := blk(1, 0, 4, 0), blk(2, 0, 4, 0)
	open.Open, bad.Bad = true, true
	v := wear.Victim
	says(t, "none", v, 0, false)
	says(t, "all live", v, 0, false, blk(3, 4, 4, 0))
	says(t, "open, bad, wrong", v, 0, false, open, bad, blk(-1, 0, 4, 0), blk(4, 5, 4, 0))
	says(t, "fractions", v, 7, true, open, bad, blk(6, 2, 4, 0), blk(7, 3, 8, 9), blk(8, 4, 4, 0))
	says(t, "least worn", v, 7, true, blk(6, 2, 4, 5), blk(7, 4, 8, 4), blk(5, 1, 2, 5))
	says(t, "least number", v, 5, true, blk(6, 2, 4, 5), blk(5, 1, 2, 5), blk(9, 1, 2, 5))
	says(t, "block 0", v, 0, true, blk(6, 2, 4, 5), blk(0, 1, 2, 5))
}

func TestFresh(t *testing.T) { // P802
	one := blk(9, 0, 4, 3)
	one.One = true
	open := blk(1, 0, 4, 0)
	open.Open = true
	two := func(l ...wear.Block) (int, bool) { return wear.Fresh(false, l...) }
	single := func(l ...wear.Block) (int, bool) { return wear.Fresh(true, l...) }
	says(t, "none", two, 0, false, open, blk(2, 1, 4, 0))
	says(t, "least worn", two, 8, true, open, blk(2, 0, 4, 4), blk(8, 0, 4, 3), blk(3, 1, 4, 0))
	says(t, "mode first", single, 9, true, blk(2, 0, 4, 3), one, blk(3, 0, 4, 3))
	says(t, "mode first", two, 2, true, one, blk(5, 0, 4, 3), blk(2, 0, 4, 3))
	says(t, "wear ahead of mode", single, 2, true, one, blk(2, 0, 4, 2))
	says(t, "block 0", single, 0, true, blk(0, 0, 1, 0))
}

func TestOld(t *testing.T) { // P802
	bad := blk(1, 1, 4, 100)
	bad.Bad = true
	open := blk(2, 1, 4, 50)
	open.Open = true
	old := func(gap int) choice {
		return func(l ...wear.Block) (int, bool) { return wear.Old(gap, l...) }
	}
	l := []wear.Block{bad, open, blk(3, 2, 4, 10), blk(4, 4, 4, 10), blk(5, 0, 4, 1)}
	says(t, "beyond the gap", old(39), 3, true, l...)
	says(t, "at the gap", old(40), 0, false, l...)
	says(t, "a gap below 0", old(math.MinInt), 3, true, blk(3, 1, 4, 7))
	says(t, "none is live", old(-1), 0, false, blk(3, 0, 4, 7), open)
	says(t, "a great gap", old(math.MaxInt), 0, false, l...)
}

func TestNumbers(t *testing.T) { // P803
	for _, x := range [][3]int{{5, 5, 0}, {6, 5, 0}, {4, 5, 1}, {0, 16, 16}, {0, 17, 16}, {math.MinInt, math.MaxInt, 16}, {math.MaxInt, math.MinInt, 0}, {-3, 4, 7}} {
		if got := wear.Debt(x[0], x[1]); got != x[2] {
			t.Errorf("Debt(%d, %d) = %d", x[0], x[1], got)
		}
	}
	for d, want := range map[int]int{-9: 0, 0: 0, 4: 0, 5: 1, 8: 1, 9: 2, 99: 2} {
		if wear.Pay(d) != want {
			t.Errorf("Pay(%d) = %d", d, wear.Pay(d))
		}
	}
	for want, l := range map[int][]int{0: nil, 2: {250, 50}, 1: {-500, 199}, 11: {1 << 40, 1 << 40}, 3: {200, -1, 400}} {
		if wear.Life(l) != want {
			t.Errorf("Life(%v) = %d", l, wear.Life(l))
		}
	}
	if wear.Life([]int{math.MaxInt, 0, math.MaxInt}) != 11 || wear.Life([]int{999}) != 10 || wear.Life([]int{1000}) != 11 {
		t.Error("Life at the bounds")
	}
	if l, p := wear.Total(blk(1, 2, 4, 0), blk(-1, 1, 4, 0), wear.Block{N: 3, Live: 1, Pages: 2, Bad: true}); l != 3 || p != 6 {
		t.Error(l, p)
	}
}
