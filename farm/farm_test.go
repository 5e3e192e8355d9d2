package farm_test

import (
	"bytes"
	"reflect"
	"strings"
	"testing"

	"locket/api"
	"locket/deck"
	"locket/farm"
)

func shape() api.Config {
	return api.Config{Blocks: 70, Pages: 8, Sector: 128, User: 64, Boot: 4, Rpa: 4, Group: 8, Cache: 4, Spare: 3}
}

func parse(t *testing.T, text string) []deck.Move {
	t.Helper()
	m, e := farm.Parse(text)
	if e != api.OK {
		t.Fatal(e)
	}
	return m
}

const script = "ask 0 0\nask 1 0\nask 2 0\nask 3 65536\nask 7 65536\nask 24 5\n"

func job(t *testing.T, x byte) farm.Job {
	t.Helper()
	m := parse(t, script)
	m = append(m, deck.Move{Kind: deck.Block, Bytes: bytes.Repeat([]byte{x}, 128)})
	return farm.Job{Config: shape(), Moves: append(m, parse(t, "up\nask 99 1\narm 2\n"+script+"ask 17 5")...)}
}

func TestRun(t *testing.T) { // P2601
	j := job(t, 7)
	r := farm.Run(j)
	d, _ := deck.New(shape())
	want := d.Play(j.Moves...)
	n := 0
	for _, b := range want {
		n += len(b)
	}
	if r.Err != api.OK || !reflect.DeepEqual(r.Answers, want) || r.Ups != 2 || r.Bytes != n || n < 6 {
		t.Errorf("%+v", r)
	}
	if r := farm.Run(farm.Job{Moves: j.Moves}); !reflect.DeepEqual(r, farm.Report{Err: api.ErrArg}) {
		t.Errorf("%+v", r)
	}
}

func TestFarm(t *testing.T) { // P2601
	for _, n := range []int{0, -1, 9} {
		if r, e := farm.Farm(n, job(t, 1)); len(r) > 0 || e != api.ErrArg {
			t.Errorf("crew %d: %v", n, e)
		}
	}
	var jobs []farm.Job
	var want []farm.Report
	for i := range 20 {
		j := job(t, byte(i))
		if i%5 == 4 {
			j.Config.Pages = i
		}
		jobs = append(jobs, j)
		want = append(want, farm.Run(j))
	}
	for crew := 1; crew <= api.MaxCrew; crew++ {
		if r, e := farm.Farm(crew, jobs...); e != api.OK || !reflect.DeepEqual(r, want) {
			t.Errorf("crew %d: other reports", crew)
		}
	}
	if r, e := farm.Farm(3); len(r) > 0 || e != api.OK {
		t.Error("no jobs")
	}
}

func TestParse(t *testing.T) { // P2602
	text := "send 00ff5a\n\nask -1 999999999\nblock 01\narm -999999999\nup\nfail 7\n\nflip 1 0 20"
	want := []deck.Move{
		{Kind: deck.Send, Bytes: []byte{0, 0xFF, 0x5A}}, {Kind: deck.Ask, A: -1, N: 999999999}, {Kind: deck.Block, Bytes: []byte{1}},
		{Kind: deck.Arm, N: -999999999}, {Kind: deck.PowerUp}, {Kind: deck.Fail, A: 7}, {Kind: deck.Flip, A: 1, N: 20},
	}
	if got := parse(t, text); !reflect.DeepEqual(got, want) {
		t.Errorf("%+v", got)
	}
	if got := farm.Text(want...); got != strings.ReplaceAll(text, "\n\n", "\n")+"\n" {
		t.Errorf("%q", got)
	}
	if len(parse(t, "")) != 0 || len(parse(t, "\n\n")) != 0 {
		t.Error("empty lines")
	}
	for _, line := range []string{
		"down", "Up", "up ", " up", "up 1", "up\r", "send", "send ", "send 0", "send 0G", "send 0A", "send 00 00", "send  00", "block 000",
		"ask 1", "ask 1 2 3", "ask 01 2", "ask +1 2", "ask 1 -0", "ask 1 1000000000", "ask 1 -1000000000", "ask 1 ", "ask 1 0x1", "ask 1 1.5",
		"arm", "arm --1", "arm 00", "fail a", "flip 1 2", "flip 1 2 3 4", "arm 1_0", "arm 99999999999999999999", "\x00", "ask\t1 2",
	} {
		if m, e := farm.Parse("up\n" + line + "\nup\n"); len(m) > 0 || e != api.ErrForm {
			t.Errorf("%q: %v", line, e)
		}
	}
	full := strings.Repeat("up\n", api.MaxMoves)
	if len(parse(t, full)) != api.MaxMoves {
		t.Error("as many as may be")
	}
	if m, e := farm.Parse(full + "up"); len(m) > 0 || e != api.ErrFull {
		t.Error(e)
	}
	if _, e := farm.Parse(full + "up\nupp"); e != api.ErrForm {
		t.Error(e)
	}
}

func TestText(t *testing.T) { // P2602
	for _, m := range []deck.Move{
		{}, {Kind: 8}, {Kind: deck.Send}, {Kind: deck.Block}, {Kind: deck.Send, Bytes: []byte{1}, A: 1}, {Kind: deck.Ask, B: 1}, {Kind: deck.Ask, N: 1e9},
		{Kind: deck.Arm, A: 1}, {Kind: deck.PowerUp, N: 1}, {Kind: deck.PowerUp, Bytes: []byte{1}}, {Kind: deck.Fail, A: -1e9}, {Kind: deck.Fail, B: 2}, {Kind: deck.Flip, Bytes: []byte{0}},
	} {
		if got := farm.Text(deck.Move{Kind: deck.Arm, N: 5}, m, deck.Move{Kind: deck.PowerUp}); got != "arm 5\nup\n" {
			t.Errorf("%+v: %q", m, got)
		}
	}
	if farm.Text() != "" {
		t.Error("of nothing")
	}
	many := make([]deck.Move, api.MaxMoves+5)
	for i := range many {
		many[i] = deck.Move{Kind: deck.Fail, A: i}
	}
	if got := parse(t, farm.Text(many...)); !reflect.DeepEqual(got, many[:api.MaxMoves]) {
		t.Error("more than a text can say")
	}
}
