package slots_test

import (
	"bytes"
	"errors"
	"slices"
	"testing"

	"locket/api"
	"locket/media"
	"locket/nand"
	"locket/slots"
)

func flash(blocks, pages, chunks, size int) (*nand.Flash, *media.Media) {
	f, _ := nand.New(blocks, pages, chunks)
	m, _ := media.New(f, size)
	return f, m
}

func format(t *testing.T, m *media.Media, blocks ...int) *slots.Store {
	t.Helper()
	s, err := slots.Format(m, blocks...)
	if err != nil {
		t.Fatal(err)
	}
	return s
}

func reopen(t *testing.T, f *nand.Flash, size int, blocks ...int) *slots.Store {
	t.Helper()
	m, _ := media.New(f, size)
	s, err := slots.Open(m, blocks...)
	if err != nil {
		t.Fatal(err)
	}
	return s
}

func wraps(t *testing.T, what string, s *slots.Store, err error, want api.Errno) {
	t.Helper()
	if s != nil || !errors.Is(err, want) {
		t.Errorf("%s: %v, not %v", what, err, want)
	}
}

func holds(t *testing.T, what string, s *slots.Store, key int, want string) {
	t.Helper()
	if b, ok := s.Get(key); !ok || string(b) != want {
		t.Errorf("%s: key %d is %q %v, not %q", what, key, b, ok, want)
	}
}

func is(t *testing.T, what string, got, want api.Errno) {
	t.Helper()
	if got != want {
		t.Errorf("%s: %v, not %v", what, got, want)
	}
}

func TestFormat(t *testing.T) { // P901
	f, m := flash(8, 4, 2, 128)
	for what, l := range map[string][]int{"none": nil, "two": {1, 2}, "no block": {1, 2, 8}, "below": {-1, 1, 2}, "twice": {1, 2, 3, 2}} {
		s, err := slots.Format(m, l...)
		wraps(t, what, s, err, api.ErrArg)
		s, err = slots.Open(m, l...)
		wraps(t, what, s, err, api.ErrArg)
	}
	s, err := slots.Open(m, 1, 2, 3)
	wraps(t, "nothing there", s, err, api.ErrLost)
	worn, _ := media.New(f, 128, 1, 4)
	s, err = slots.Format(worn, 1, 2, 3, 4)
	wraps(t, "two are good", s, err, api.ErrFail)
	f.Cut()
	s, err = slots.Format(m, 1, 2, 3)
	wraps(t, "off", s, err, api.ErrDown)
	s, err = slots.Open(m, 1, 2, 3)
	wraps(t, "off", s, err, api.ErrDown)
	f.On()
	s = format(t, worn, 5, 2, 3, 1)
	if !slices.Equal(s.Blocks(), []int{2, 3, 5}) || len(s.Keys()) != 0 || s.Cost() < 1 || s.Cost() > 4 {
		t.Error("a new store")
	}
	if _, ok := s.Get(0); ok {
		t.Error("no record yet")
	}
	reopen(t, f, 128, 2, 3, 5)
	f.Fail(6)
	if s := format(t, m, 6, 2, 3, 5); !slices.Equal(s.Blocks(), []int{2, 3, 5}) {
		t.Error("a block that has failed unheard")
	}
}

func TestPut(t *testing.T) { // P902
	f, m := flash(4, 4, 2, 100)
	s := format(t, m, 0, 1, 2)
	b := []byte("some bytes")
	is(t, "put", s.Put(31, b), api.OK)
	b[0] = 'x'
	holds(t, "what was handed in is kept", s, 31, "some bytes")
	got, _ := s.Get(31)
	got[0] = 'x'
	holds(t, "what was answered is shared", s, 31, "some bytes")
	is(t, "two keys", s.PutAll([]int{5, 0}, [][]byte{{}, []byte("zero")}), api.OK)
	if !slices.Equal(s.Keys(), []int{0, 5, 31}) {
		t.Error(s.Keys())
	}
	holds(t, "empty", s, 5, "")
	is(t, "no key", s.Put(32, nil), api.ErrArg)
	is(t, "below", s.Put(-1, nil), api.ErrArg)
	is(t, "twice", s.PutAll([]int{1, 1}, [][]byte{nil, nil}), api.ErrArg)
	is(t, "not as many", s.PutAll([]int{1}, nil), api.ErrArg)
	if _, ok := s.Get(32); ok {
		t.Error("no key")
	}
	long := make([]byte, 100-16-4*4-10-4+1)
	is(t, "too long", s.Put(1, long), api.ErrFull)
	is(t, "as long as can be", s.Put(1, long[1:]), api.OK)
	is(t, "one more", s.Put(2, nil), api.ErrFull)
	is(t, "shorter", s.Put(31, nil), api.OK)
	s = reopen(t, f, 100, 2, 1, 0)
	holds(t, "reopened", s, 0, "zero")
	holds(t, "reopened", s, 31, "")
	f.Cut()
	is(t, "too long, off", s.Put(1, make([]byte, 999)), api.ErrFull)
	is(t, "off", s.Put(1, nil), api.ErrDown)
}

func TestCost(t *testing.T) { // P902
	f, m := flash(4, 4, 1, 64)
	s := format(t, m, 0, 2, 3)
	for i := range 50 {
		_, before, _, _ := f.Count()
		is(t, "put", s.Put(i%3, []byte{byte(i)}), api.OK)
		if _, after, _, _ := f.Count(); int(after-before) > s.Cost() {
			t.Fatalf("%d pages", after-before)
		}
	}
	if f.Next(1) != 0 {
		t.Error("it lies in another block")
	}
}

func TestTiny(t *testing.T) { // P901: a page that can hold no record
	for size := 1; size < 20; size++ {
		f, m := flash(3, 4, 1, size)
		s := format(t, m, 0, 1, 2)
		is(t, "put", s.Put(0, []byte{1}), api.ErrFull)
		reopen(t, f, size, 0, 1, 2)
	}
}

// cutAt lets the power go at step n of a put, and tells whether it went.
func cutAt(t *testing.T, n, before int) bool {
	f, m := flash(5, 4, 2, 128)
	s := format(t, m, 1, 2, 4)
	for i := range before {
		is(t, "put", s.PutAll([]int{1, 2}, [][]byte{{byte(i)}, {byte(i)}}), api.OK)
	}
	f.Arm(n)
	e := s.PutAll([]int{1, 2}, [][]byte{{byte(before)}, {byte(before)}})
	went := f.Off()
	f.On()
	again := reopen(t, f, 128, 1, 2, 4)
	a, _ := again.Get(1)
	b, _ := again.Get(2)
	old := []byte{byte(before - 1)}
	fresh := []byte{byte(before)}
	if !bytes.Equal(a, b) || !bytes.Equal(a, fresh) && (e == api.OK || before > 0 && !bytes.Equal(a, old)) {
		t.Errorf("cut at %d behind %d: %v, %v %v", n, before, e, a, b)
	}
	// Cuts that follow one another must not hide the newest page, and the store goes on.
	for k := range 6 {
		f.Arm(2)
		is(t, "put", again.Put(1, []byte{99}), api.ErrDown)
		f.On()
		again = reopen(t, f, 128, 1, 2, 4)
		if c, _ := again.Get(1); !bytes.Equal(a, c) {
			t.Errorf("cut %d: %v, not %v", k, c, a)
		}
	}
	f.Cut() // nothing is armed any more
	f.On()
	is(t, "put", again.Put(1, []byte{77}), api.OK)
	holds(t, "behind cuts", reopen(t, f, 128, 1, 2, 4), 1, "M")
	return went
}

func TestCuts(t *testing.T) { // P903
	for before := range 14 {
		n := 1
		for cutAt(t, n, before) {
			n++
		}
		if n < 3 {
			t.Errorf("behind %d puts no cut was made", before)
		}
	}
}

func TestFormatCut(t *testing.T) { // P903: a format that is cut leaves the old store, or the new one
	for n := 1; ; n++ {
		f, m := flash(4, 4, 2, 128)
		s := format(t, m, 0, 1, 2)
		for i := range 6 {
			s.Put(3, []byte{byte(i)})
		}
		f.Arm(n)
		_, err := slots.Format(m, 0, 1, 2, 3)
		went := f.Off()
		f.On()
		again := reopen(t, f, 128, 0, 1, 2, 3)
		if b, ok := again.Get(3); ok && (err == nil || b[0] != 5) || !ok && len(again.Keys()) != 0 {
			t.Errorf("cut at %d: %v %v", n, b, ok)
		}
		if !went {
			break
		}
	}
}

func TestFailing(t *testing.T) { // P902, P903
	for first := range 3 {
		f, m := flash(4, 4, 2, 128)
		s := format(t, m, 0, 1, 2)
		for i := range 30 {
			if i == 7+first {
				f.Fail(first)
			}
			is(t, "put", s.Put(1, []byte{byte(i)}), api.OK)
			holds(t, "failed block", reopen(t, f, 128, 0, 1, 2), 1, string(rune(i)))
		}
		f.Fail((first + 1) % 3)
		var e api.Errno
		for i := range 20 {
			if e = s.Put(1, []byte{byte(i)}); e != api.OK {
				break
			}
		}
		is(t, "one is good", e, api.ErrFail)
		if len(s.Blocks()) > 1 {
			t.Error(s.Blocks())
		}
	}
}

func TestTurned(t *testing.T) { // P903, W2
	f, m := flash(4, 4, 2, 128)
	s := format(t, m, 0, 1, 2)
	is(t, "put", s.Put(1, []byte("kept")), api.OK)
	for b := range 4 {
		for p := range 4 {
			for w := range 8 {
				f.Flip(b, p, w*64+w*5)
				f.Flip(b, p, 73*8+w*64)
			}
			f.Flip(b, p, 72*8+3)
		}
	}
	holds(t, "turned", reopen(t, f, 128, 0, 1, 2), 1, "kept")
}
