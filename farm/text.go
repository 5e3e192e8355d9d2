package farm

import (
	"slices"
	"strconv"
	"strings"

	"locket/api"
	"locket/deck"
)

const (
	digits = "0123456789abcdef"
)

// shape is how a kind of move is said: its word, whether bytes follow, and how many numbers.
type shape struct {
	kind    int
	word    string
	bytes   bool
	numbers int
}

// shapes are those of all kinds.
func shapes() []shape {
	return []shape{
		{deck.Send, "send", true, 0},
		{deck.Ask, "ask", false, 2},
		{deck.Block, "block", true, 0},
		{deck.Arm, "arm", false, 1},
		{deck.PowerUp, "up", false, 0},
		{deck.Fail, "fail", false, 1},
		{deck.Flip, "flip", false, 3},
	}
}

// parts is how many a line has behind its word.
func (s shape) parts() int {
	if s.bytes {
		return 1
	}
	return s.numbers
}

// numbers are those of a move that its kind says, in the order in which they are said.
func numbers(m *deck.Move) []*int {
	switch m.Kind {
	case deck.Ask:
		return []*int{&m.A, &m.N}
	case deck.Arm:
		return []*int{&m.N}
	case deck.Fail:
		return []*int{&m.A}
	case deck.Flip:
		return []*int{&m.A, &m.B, &m.N}
	}
	return nil
}

// Parse tells the moves of a text.
func Parse(text string) ([]deck.Move, api.Errno) {
	var out []deck.Move
	for _, line := range strings.Split(text, "\n") {
		if line == "" {
			continue
		}
		m, ok := parseLine(line)
		if !ok {
			return nil, api.ErrForm
		}
		out = append(out, m)
	}
	if len(out) > api.MaxMoves {
		return nil, api.ErrFull
	}
	return out, api.OK
}

func parseLine(line string) (deck.Move, bool) {
	words := strings.Split(line, " ")
	all := shapes()
	i := slices.IndexFunc(all, func(s shape) bool { return s.word == words[0] })
	if i < 0 || len(words)-1 != all[i].parts() {
		return deck.Move{}, false
	}
	m := deck.Move{Kind: all[i].kind}
	if all[i].bytes {
		b, ok := parseHex(words[1])
		m.Bytes = b
		return m, ok
	}
	for k, at := range numbers(&m) {
		n, ok := parseNumber(words[1+k])
		if !ok {
			return deck.Move{}, false
		}
		*at = n
	}
	return m, true
}

func parseHex(s string) ([]byte, bool) {
	if len(s) == 0 || len(s)%2 != 0 {
		return nil, false
	}
	out := make([]byte, 0, len(s)/2)
	for i := 0; i < len(s); i += 2 {
		high, low := strings.IndexByte(digits, s[i]), strings.IndexByte(digits, s[i+1])
		if high < 0 || low < 0 {
			return nil, false
		}
		out = append(out, byte(high<<4|low))
	}
	return out, true
}

// parseNumber takes numbers that are written as they would be told alone.
func parseNumber(s string) (int, bool) {
	n, err := strconv.Atoi(s)
	if err != nil || !sayable(n) || strconv.Itoa(n) != s {
		return 0, false
	}
	return n, true
}

// sayable tells whether a number has at most nine digits.
func sayable(n int) bool { return n > -1e9 && n < 1e9 }

// Text tells the text of moves; those that no line says are left out, and those for which a text has no room.
func Text(moves ...deck.Move) string {
	var out strings.Builder
	count := 0
	for _, m := range moves {
		line, ok := textLine(m)
		if !ok || count == api.MaxMoves {
			continue
		}
		out.WriteString(line)
		out.WriteByte('\n')
		count++
	}
	return out.String()
}

// textLine is a move's line; false, if Parse would tell another move of it.
func textLine(m deck.Move) (string, bool) {
	all := shapes()
	i := slices.IndexFunc(all, func(s shape) bool { return s.kind == m.Kind })
	if i < 0 {
		return "", false
	}
	var line strings.Builder
	line.WriteString(all[i].word)
	if all[i].bytes {
		line.WriteByte(' ')
		for _, x := range m.Bytes {
			line.WriteByte(digits[x>>4])
			line.WriteByte(digits[x&15])
		}
	}
	for _, n := range numbers(&m) {
		line.WriteByte(' ')
		line.WriteString(strconv.Itoa(*n))
	}
	back, ok := parseLine(line.String())
	return line.String(), ok && same(back, m)
}

func same(a, b deck.Move) bool {
	return a.Kind == b.Kind && a.A == b.A && a.B == b.B && a.N == b.N && slices.Equal(a.Bytes, b.Bytes)
}
