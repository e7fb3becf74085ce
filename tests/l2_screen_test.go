package tests

import (
	"fmt"
	"math"
	"math/rand/v2"
	"slices"
	"strings"
	"testing"

	"loop.example/s01474/impl"
)

func screenOf(t *testing.T, cols, rows int, text string) impl.Screen {
	t.Helper()
	s, ok := impl.NewScreen(cols, rows)
	if !ok {
		t.Fatalf("no screen of %d columns and %d rows", cols, rows)
	}
	return impl.Feed(s, []byte(text))
}

// look draws a screen: a point for a blank cell, < for a second half, and the cursor.
func look(s impl.Screen) string {
	var rows []string
	for _, row := range s.Grid {
		text := ""
		for _, c := range row {
			switch {
			case c.Half:
				text += "<"
			case c.Text == "":
				text += "."
			}
			text += c.Text
		}
		rows = append(rows, text)
	}
	late := ""
	if s.Late {
		late = " late"
	}
	return fmt.Sprintf("%s %d,%d%s", strings.Join(rows, "|"), s.Row, s.Col, late)
}

func TestNewScreenSizes(t *testing.T) {
	for _, c := range []struct {
		cols, rows int
		ok         bool
	}{
		{2, 1, true}, {1, 1, false}, {2, 0, false}, {200, 100, true}, {201, 100, false}, {200, 101, false},
		{0, 0, false}, {-5, 5, false}, {5, -5, false}, {math.MaxInt, 5, false}, {5, math.MaxInt, false}, {math.MinInt, math.MinInt, false},
	} {
		s, ok := impl.NewScreen(c.cols, c.rows)
		if ok != c.ok || impl.ScreenOk(s) != c.ok {
			t.Errorf("%d columns, %d rows: %v", c.cols, c.rows, ok)
		}
		if !ok && !sameScreen(s, impl.Screen{}) {
			t.Errorf("%d columns, %d rows: a screen beside false", c.cols, c.rows)
		}
		if ok && (len(s.Grid) != c.rows || len(s.Grid[0]) != c.cols || len(s.Back) != 0 || len(impl.Lines(s)) != 1) {
			t.Errorf("%d columns, %d rows: %v", c.cols, c.rows, s)
		}
	}
}

func TestFeedByHand(t *testing.T) {
	for _, c := range []struct{ in, want string }{
		// a full last column before each thing
		{"abcd", "abcd|....|.... 0,3 late"},
		{"abcde", "abcd|e...|.... 1,1"},
		{"abcd\u4e16", "abcd|\u4e16<..|.... 1,2"},
		{"abcd\u0301", "abcd\u0301|....|.... 0,3 late"},
		{"ab\u4e16\u0301", "ab\u4e16\u0301<|....|.... 0,3 late"},
		{"abcd\r", "abcd|....|.... 0,0"},
		{"abcd\n", "abcd|....|.... 1,3"},
		{"abcd\nx", "abcd|...x|.... 1,3 late"},
		{"abcd\x07\x7f\u0085", "abcd|....|.... 0,3 late"},
		{"abcd\x1b[A", "abcd|....|.... 0,3"},
		{"abcd\x1b[B", "abcd|....|.... 1,3"},
		{"abcd\x1b[C", "abcd|....|.... 0,3"},
		{"abcd\x1b[D", "abcd|....|.... 0,2"},
		{"abcd\x1b[4G", "abcd|....|.... 0,3"},
		{"abcd\x1b[4Gx", "abcx|....|.... 0,3 late"},
		{"abcd\x1b[G", "abcd|....|.... 0,0"},
		{"abcd\x1b[K", "abc.|....|.... 0,3 late"},
		{"abcd\x1b[K\u0301", "abc.|....|.... 0,3 late"},
		{"abcd\x1b[Kx", "abc.|x...|.... 1,1"},
		{"abcd\x1b[J", "abc.|....|.... 0,3 late"},
		{"ab\u4e16\x1b[K", "ab..|....|.... 0,3 late"},
		{"abcd\x1b[1K\x1b[1J\x1b[m\x1b[;A\x1b[00001A", "abcd|....|.... 0,3 late"},
		{"abcd\x1bc\x1b[\x01", "abcd|....|.... 0,3 late"},
		// pieces of two columns
		{"abc\u4e16", "abc.|\u4e16<..|.... 1,2"},
		{"\u4e16\u4e16\u4e16", "\u4e16<\u4e16<|\u4e16<..|.... 1,2"},
		{"\u4e16\rx", "x...|....|.... 0,1"},
		{"\u4e16\x1b[Dx", ".x..|....|.... 0,2"},
		{"\u4e16\u754c\x1b[2G\u4e16", ".\u4e16<.|....|.... 0,3"},
		{"\u4e16\u754c\r\u754c", "\u754c<\u754c<|....|.... 0,2"},
		{"a\u4e16b\r\u754c", "\u754c<.b|....|.... 0,2"},
		{"a\u4e16b\x1b[3G\u754c", "a.\u754c<|....|.... 0,3 late"},
		{"ab\u4e16\x1b[2Gx", "ax\u4e16<|....|.... 0,2"},
		{"ab\u4e16\x1b[3Gx", "abx.|....|.... 0,3"},
		{"ab\u4e16\x1b[4Gx", "ab.x|....|.... 0,3 late"},
		{"\u4e16b\x1b[2G\x1b[K", "....|....|.... 0,1"},
		{"\u4e16b\x1b[2G\x1b[J", "....|....|.... 0,1"},
		{"\u4e16b\r\x1b[K", "....|....|.... 0,0"},
		{"\u4e16b\x1b[3G\x1b[K", "\u4e16<..|....|.... 0,2"},
		// marks
		{"\u0301a", "a...|....|.... 0,1"},
		{"ab\r\u0301", "ab..|....|.... 0,0"},
		{"ab\r\n\u0301", "ab..|....|.... 1,0"},
		{"a\u0301\u0302", "a\u0301\u0302...|....|.... 0,1"},
		{" \u0301", " \u0301...|....|.... 0,1"},
		{"\x1b[2C\u0301", "....|....|.... 0,2"},
		{"\u4e16\u0301", "\u4e16\u0301<..|....|.... 0,2"},
		{"\u4e16\x1b[2G\u0301", "\u4e16\u0301<..|....|.... 0,1"},
		{"abcd\x1b[4G\u0301", "abc\u0301d|....|.... 0,3"},
		{"a\u200b\ufe0f", "a\u200b\ufe0f...|....|.... 0,1"},
		// controls
		{"a\x00\x01\x08\x09\x0b\x0c\x1f\x7fb", "ab..|....|.... 0,2"},
		{"a\xc2\x80\xc2\x9fb\xc2\xa0", "ab\u00a0.|....|.... 0,3"},
		{"abc\rx", "xbc.|....|.... 0,1"},
		// bytes that are no rune
		{"\xff\xc0\x80", "\ufffd\ufffd\ufffd.|....|.... 0,3"},
		{"\xe4\xb8a", "\ufffd\ufffda.|....|.... 0,3"},
		{"\xe4\xb8\x1b[Cx", "\ufffd\ufffd.x|....|.... 0,3 late"},
		{"\xe4\r\nx", "\ufffd...|x...|.... 1,1"},
		{"\xed\xa0", "\ufffd\ufffd..|....|.... 0,2"},
		{"\xe0\x80", "\ufffd\ufffd..|....|.... 0,2"},
		{"\xf4\x90", "\ufffd\ufffd..|....|.... 0,2"},
		{"\xf0\x9f\xe4\xb8\x96", "\ufffd\ufffd\u4e16<|....|.... 0,3 late"},
		// what is passed over
		{"a\x1bcb", "ab..|....|.... 0,2"},
		{"a\x1b\x1b[Cb", "a[Cb|....|.... 0,3 late"},
		{"a\x1b\nb", "ab..|....|.... 0,2"},
		{"a\x1b\xe4\xb8b", "a\ufffdb.|....|.... 0,3"},
		{"a\x1b[\nb", "ab..|....|.... 0,2"},
		{"a\x1b[1\x1b[Cb", "a[Cb|....|.... 0,3 late"},
		{"a\x1b[1 Cb", "aCb.|....|.... 0,3"},
		{"a\x1b[1\x7fb", "ab..|....|.... 0,2"},
		{"a\x1b[1/b", "ab..|....|.... 0,2"},
		{"a\x1b[\xffb", "ab..|....|.... 0,2"},
		{"a\x1b[1~b\x1b[@", "ab..|....|.... 0,2"},
		// moves
		{"a\x1b[9B\x1b[9Cb", "a...|....|...b 2,3 late"},
		{"\n\nx\x1b[A\x1b[A\x1b[Ay", ".y..|....|x... 0,2"},
		{"\n\x1b[9Ax", "x...|....|.... 0,1"},
		{"ab\x1b[0Dx", "ax..|....|.... 0,2"},
		{"ab\x1b[9Dx", "xb..|....|.... 0,1"},
		{"\x1b[0Bx", "....|x...|.... 1,1"},
		{"\x1b[2Bx", "....|....|x... 2,1"},
		{"\x1b[0Cx", ".x..|....|.... 0,2"},
		{"\x1b[2Cx", "..x.|....|.... 0,3"},
		{"ab\x1b[0Gx", "xb..|....|.... 0,1"},
		{"ab\x1b[1Gx", "xb..|....|.... 0,1"},
		{"\x1b[3Gx", "..x.|....|.... 0,3"},
		{"\x1b[5Gx", "...x|....|.... 0,3 late"},
		{"\x1b[9999Gx", "...x|....|.... 0,3 late"},
		{"\x1b[0003Gx", "..x.|....|.... 0,3"},
		{"\x1b[00003Gx", "x...|....|.... 0,1"},
		{"\x1b[10000Gx", "x...|....|.... 0,1"},
		{"\x1b[3;Gx", "x...|....|.... 0,1"},
		{"\x1b[?3Gx", "x...|....|.... 0,1"},
		{"\x1b[:Cx", "x...|....|.... 0,1"},
		{"\x1b[2ax\x1b[2cy", "xy..|....|.... 0,2"},
		// blanking
		{"abcd\r\nefgh\r\nijkl\x1b[A\x1b[2G\x1b[K", "abcd|e...|ijkl 1,1"},
		{"abcd\r\nefgh\r\nijkl\x1b[A\x1b[2G\x1b[J", "abcd|e...|.... 1,1"},
		{"abcd\r\nefgh\r\nijkl\x1b[2G\x1b[J", "abcd|efgh|i... 2,1"},
		{"abcd\r\x1b[0K", "....|....|.... 0,0"},
		{"abcd\r\x1b[0000J", "....|....|.... 0,0"},
		{"abcd\r\x1b[00000J", "abcd|....|.... 0,0"},
		{"abcd\r\x1b[1K\x1b[2J\x1b[3K", "abcd|....|.... 0,0"},
		// the last row
		{"a\nb\nc\nd", ".b..|..c.|...d 2,3 late"},
		{"a\r\nb\r\nc\r\n", "b...|c...|.... 2,0"},
		{"\n\nabcde", "....|abcd|e... 2,1"},
		{"\n\nabc\u4e16", "....|abc.|\u4e16<.. 2,2"},
		{"a\x1b[9B\x1b[B\x1b[9Bx", "a...|....|.x.. 2,2"},
	} {
		s := screenOf(t, 4, 3, c.in)
		if got := look(s); got != c.want || len(s.Hold) != 0 {
			t.Errorf("%q: %s, not %s; held %q", c.in, got, c.want, s.Hold)
		}
	}
}

func TestNumbersOfSequences(t *testing.T) {
	middle := screenOf(t, impl.MaxCols, impl.MaxRows, "\x1b[50B\x1b[101G")
	if middle.Row != 50 || middle.Col != 100 {
		t.Fatalf("not in the middle: %d, %d", middle.Row, middle.Col)
	}
	for _, n := range []int{0, 1, 2, 9, 10, 12, 21, 49, 50, 51, 99, 100, 101, 123, 199, 200, 201, 1000, 9999} {
		far := max(n, 1)
		for _, c := range []struct {
			last     string
			row, col int
		}{
			{"A", max(50-far, 0), 100}, {"B", min(50+far, 99), 100}, {"C", 50, min(100+far, 199)}, {"D", 50, max(100-far, 0)}, {"G", 50, min(far-1, 199)},
		} {
			for _, form := range []string{"%d", "%04d"} {
				in := "\x1b[" + fmt.Sprintf(form, n) + c.last
				if got := impl.Feed(middle, []byte(in)); got.Row != c.row || got.Col != c.col {
					t.Errorf("%q: %d, %d, not %d, %d", in, got.Row, got.Col, c.row, c.col)
				}
			}
		}
	}
}

func TestBackIsTheRowsThatLeft(t *testing.T) {
	s := screenOf(t, 4, 2, "a  \r\n\x1b[2C\u4e16\r\n\r\n  \r\nx\u0301\r\n")
	if want := []string{"a", "  \u4e16", "", ""}; !slices.Equal(s.Back, want) {
		t.Errorf("%q, not %q", s.Back, want)
	}
	if want := []string{"a", "  \u4e16", "", "", "x\u0301", ""}; !slices.Equal(impl.Lines(s), want) {
		t.Errorf("%q, not %q", impl.Lines(s), want)
	}
}

func TestLinesShown(t *testing.T) {
	for _, c := range []struct{ in, want string }{
		{"", ""},
		{"\n\n", "||"},
		{"\n\n\x1b[2A", ""},
		{"a\r\n\r\nb\x1b[2A", "a||b"},
		{"a\r\n\r\n  \x1b[2A", "a"},
		{"a\r\n\r\n  \x1b[A", "a|"},
		{"a\r\n\r\n \u0301\x1b[2A", "a|| \u0301"},
		{"a\r\n\r\n\u00a0\x1b[2A", "a||\u00a0"},
		{"  a  ", "  a"},
		{"a\x1b[2Cb", "a  b"},
		{"\u4e16\x1b[Cb", "\u4e16 b"},
		{"a\r\nb\r\nc\r\nd\x1b[9A", "a|b|c|d"},
		{"a\r\nb\r\nc\r\n\x1b[9A\x1b[J", "a|"},
	} {
		if got := strings.Join(impl.Lines(screenOf(t, 5, 3, c.in)), "|"); got != c.want {
			t.Errorf("%q: %q, not %q", c.in, got, c.want)
		}
	}
}

func TestHoldOfWhatIsBegun(t *testing.T) {
	digits := strings.Repeat("1", 30)
	for _, c := range []struct{ in, held, want string }{
		{"a\x1b", "\x1b", "a... 0,1"},
		{"a\x1b[", "\x1b[", "a... 0,1"},
		{"a\x1b[0", "\x1b[0", "a... 0,1"},
		{"a\x1b[" + digits, "\x1b[" + digits, "a... 0,1"},
		{"a\x1b[" + digits + "?", "", "a... 0,1"},
		{"a\x1b[" + digits + "A", "", "a... 0,1"},
		{"a\x1b[" + digits + "2A", "", "aA.. 0,2"},
		{"a\x1b[" + digits + "\x01b", "", "ab.. 0,2"},
		{"a\x1b[" + digits + "\x1b[b", "", "a[b. 0,3"},
		{"a\x1b[" + strings.Repeat(";", 31) + "b", "", "ab.. 0,2"},
		{"\xc3", "\xc3", ".... 0,0"},
		{"\xe4", "\xe4", ".... 0,0"},
		{"\xe4\xb8", "\xe4\xb8", ".... 0,0"},
		{"\xe0\xa0", "\xe0\xa0", ".... 0,0"},
		{"\xed\x9f", "\xed\x9f", ".... 0,0"},
		{"\xf0\x90", "\xf0\x90", ".... 0,0"},
		{"\xf4\x8f\xbf", "\xf4\x8f\xbf", ".... 0,0"},
		{"\xf0\x9f\x98", "\xf0\x9f\x98", ".... 0,0"},
		{"\xe4\xe4", "\xe4", "\ufffd... 0,1"},
		{"\xf0\x9f\xe4\xb8", "\xe4\xb8", "\ufffd\ufffd.. 0,2"},
		{"\xc0", "", "\ufffd... 0,1"},
		{"\xc1", "", "\ufffd... 0,1"},
		{"\xf5", "", "\ufffd... 0,1"},
		{"\x80", "", "\ufffd... 0,1"},
	} {
		s := screenOf(t, 4, 1, c.in)
		if got := look(s); got != c.want || string(s.Hold) != c.held {
			t.Errorf("%q: %s, held %q, not %s, %q", c.in, got, s.Hold, c.want, c.held)
		}
	}
}

func TestHoldMayBeAnyBytes(t *testing.T) {
	s := screenOf(t, 4, 1, "")
	s.Hold = []byte("ab\x1b[")
	if got := impl.Feed(s, []byte("Dc\xe4")); look(got) != "ac.. 0,2" || string(got.Hold) != "\xe4" {
		t.Errorf("%s, held %q", look(got), got.Hold)
	}
	if got := impl.Feed(s, nil); look(got) != "ab.. 0,2" || string(got.Hold) != "\x1b[" {
		t.Errorf("%s, held %q", look(got), got.Hold)
	}
}

func TestCellIsFull(t *testing.T) {
	for _, c := range []struct{ before, after int }{{1, 3}, {5999, 6001}, {6000, 6002}, {6001, 6001}, {6002, 6002}, {9000, 9000}} {
		s := screenOf(t, 4, 1, "a")
		s.Grid[0][0].Text = strings.Repeat("a", c.before)
		if got := len(impl.Feed(s, []byte("\u0301")).Grid[0][0].Text); got != c.after {
			t.Errorf("%d bytes and a mark: %d, not %d", c.before, got, c.after)
		}
	}
	many := screenOf(t, 4, 1, "\u4e16"+strings.Repeat("\u0301", 4000))
	if got := len(many.Grid[0][0].Text); got != 6001 {
		t.Errorf("3 bytes and 4000 marks: %d", got)
	}
}

// brokenScreens has one screen for each way in which it can't be valid.
func brokenScreens(t *testing.T) map[string]impl.Screen {
	out := map[string]impl.Screen{"the empty one": {}}
	add := func(name string, change func(s *impl.Screen)) {
		s := screenOf(t, 4, 3, "one\r\n\r\n\r\na\u4e16b\xe4")
		if !impl.ScreenOk(s) {
			t.Fatalf("not valid to begin with")
		}
		change(&s)
		out[name] = s
	}
	add("columns below the range", func(s *impl.Screen) { s.Cols = 1; s.Grid = [][]impl.Cell{{{}}, {{}}, {{}}}; s.Col, s.Late = 0, false })
	add("columns above the range", func(s *impl.Screen) {
		s.Cols = 201
		s.Grid = [][]impl.Cell{make([]impl.Cell, 201)}
		s.Rows, s.Row = 1, 0
		s.Late = false
	})
	add("columns below 0", func(s *impl.Screen) { s.Cols = -4 })
	add("no rows", func(s *impl.Screen) { s.Rows = 0; s.Grid = nil; s.Row = 0 })
	add("no rows but a row", func(s *impl.Screen) { s.Rows = 0; s.Grid = s.Grid[:1]; s.Row = 0 })
	add("too many rows", func(s *impl.Screen) {
		s.Rows = 101
		for len(s.Grid) < 101 {
			s.Grid = append(s.Grid, make([]impl.Cell, 4))
		}
	})
	add("rows below 0", func(s *impl.Screen) { s.Rows = math.MinInt })
	add("no grid", func(s *impl.Screen) { s.Grid = nil })
	add("a row too few", func(s *impl.Screen) { s.Grid = s.Grid[1:]; s.Row = 0 })
	add("a row too many", func(s *impl.Screen) { s.Grid = append(s.Grid, make([]impl.Cell, 4)) })
	add("a short row", func(s *impl.Screen) { s.Grid[0] = s.Grid[0][:3] })
	add("a long row", func(s *impl.Screen) { s.Grid[1] = append(s.Grid[1], impl.Cell{}) })
	add("an empty row", func(s *impl.Screen) { s.Grid[2] = nil })
	add("cursor above", func(s *impl.Screen) { s.Row = -1 })
	add("cursor below", func(s *impl.Screen) { s.Row = 3 })
	add("cursor far below", func(s *impl.Screen) { s.Row = math.MaxInt })
	add("cursor to the left", func(s *impl.Screen) { s.Col, s.Late = -1, false })
	add("cursor to the right", func(s *impl.Screen) { s.Col, s.Late = 4, false })
	add("late to the right", func(s *impl.Screen) { s.Col, s.Late = 4, true })
	add("late too early", func(s *impl.Screen) { s.Col, s.Late = 2, true })
	add("late in front", func(s *impl.Screen) { s.Col, s.Late = 0, true })
	add("a half with a text", func(s *impl.Screen) { s.Grid[2][2].Text = "x" })
	add("a half behind a blank", func(s *impl.Screen) { s.Grid[0][2].Half = true })
	add("a half behind a half", func(s *impl.Screen) { s.Grid[2][3] = impl.Cell{Half: true} })
	add("a half in front", func(s *impl.Screen) { s.Grid[1][0] = impl.Cell{Half: true} })
	add("a half behind another row's text", func(s *impl.Screen) { s.Grid[1][3].Text = "x"; s.Grid[2][0] = impl.Cell{Half: true} })
	add("too much held", func(s *impl.Screen) { s.Hold = make([]byte, 33) })
	return out
}

func TestBrokenScreens(t *testing.T) {
	for name, s := range brokenScreens(t) {
		if impl.ScreenOk(s) {
			t.Errorf("%s: valid", name)
		}
		if got := impl.Feed(s, []byte("x\r\n\x1b[Jy\u0301")); !sameScreen(got, s) {
			t.Errorf("%s: Feed gives %v", name, got)
		}
		if got := impl.Lines(s); len(got) != 0 {
			t.Errorf("%s: Lines gives %q", name, got)
		}
		if got, ok := impl.Resize(s, 10, 10); ok || !sameScreen(got, impl.Screen{}) {
			t.Errorf("%s: Resize gives %v, %v", name, got, ok)
		}
	}
}

func TestOddScreensThatAreValid(t *testing.T) {
	for name, change := range map[string]func(s *impl.Screen){
		"late":            func(s *impl.Screen) { s.Col, s.Late = 3, true },
		"last column":     func(s *impl.Screen) { s.Col, s.Late = 3, false },
		"much held":       func(s *impl.Screen) { s.Hold = make([]byte, 32) },
		"any text":        func(s *impl.Screen) { s.Grid[0][0].Text = "\n\xff \x1b" },
		"a narrow piece":  func(s *impl.Screen) { s.Grid[0][0].Text = "a"; s.Grid[0][1] = impl.Cell{Half: true} },
		"a wide lone one": func(s *impl.Screen) { s.Grid[0][3].Text = "\u4e16" },
		"any back":        func(s *impl.Screen) { s.Back = []string{"", "  ", "\xff"} },
	} {
		s := screenOf(t, 4, 3, "")
		change(&s)
		if !impl.ScreenOk(s) || !impl.ScreenOk(impl.Feed(s, []byte("\x1b[2Gx"))) {
			t.Errorf("%s: not valid", name)
		}
	}
}

func TestResizeGivesABlankScreen(t *testing.T) {
	s := screenOf(t, 4, 2, "ab\r\n\r\nc \r\ndefg\xe4")
	for _, c := range []struct {
		cols, rows int
		ok         bool
	}{{2, 1, true}, {200, 100, true}, {4, 2, true}, {1, 1, false}, {2, 0, false}, {201, 1, false}, {2, 101, false}, {math.MinInt, math.MaxInt, false}} {
		got, ok := impl.Resize(s, c.cols, c.rows)
		want, _ := impl.NewScreen(c.cols, c.rows)
		if c.ok {
			want.Back = []string{"ab", "", "c", "defg"}
		}
		if ok != c.ok || !sameScreen(got, want) {
			t.Errorf("to %d, %d: %v, %v", c.cols, c.rows, got, ok)
		}
	}
}

// pieces are what streams in these tests are made of.
var pieces = []string{
	"a", "bc", "xyz", " ", "   ", "\u4e16", "\U0001f600", "\u4e16\u754c", "\u0301", "\u0301\u0302", "\u200b", "\u00e9", "\u00a0", "\ufffd", "\r", "\n", "\r\n", "\n\n\n",
	"\x07", "\t", "\x00", "\x7f", "\xc2\x85", "\x80", "\xff", "\xc3", "\xe4", "\xe4\xb8", "\xf0\x9f", "\xf0\x9f\x98", "\xed\xa0\x80", "\xe0\x80", "\xf4\x90\x80\x80", "\xc0\xaf",
	"\x1b", "\x1bc", "\x1b\x1b", "\x1b[", "\x1b[1", "\x1b[A", "\x1b[B", "\x1b[C", "\x1b[D", "\x1b[G", "\x1b[K", "\x1b[J", "\x1b[0K", "\x1b[0J", "\x1b[1K", "\x1b[2J",
	"\x1b[2A", "\x1b[2B", "\x1b[2C", "\x1b[2D", "\x1b[3G", "\x1b[9999C", "\x1b[99999D", "\x1b[0000G", "\x1b[;A", "\x1b[?25h", "\x1b[31m", "\x1b[1\x01", "\x1b[\x1b",
	"\x1b[" + "123456789012345678901234567890", "\x1b[" + "1234567890123456789012345678901", "A", "[",
}

func randomStream(random *rand.Rand, n int) []byte {
	var out []byte
	for range n {
		out = append(out, pieces[random.IntN(len(pieces))]...)
	}
	return out
}

// randomScreen is any valid screen, also such as no Feed would lead to.
func randomScreen(t *testing.T, random *rand.Rand) impl.Screen {
	s := screenOf(t, 2+random.IntN(5), 1+random.IntN(4), "")
	for _, row := range s.Grid {
		for i := range row {
			switch random.IntN(5) {
			case 0:
				row[i].Text = "a"
			case 1:
				row[i].Text = " "
			case 2, 3:
				if i > 0 && !row[i-1].Half {
					row[i-1].Text = "\u4e16"
					row[i].Half = true
				}
			}
		}
	}
	s.Row, s.Col = random.IntN(s.Rows), random.IntN(s.Cols)
	s.Late = s.Col == s.Cols-1 && random.IntN(2) == 0
	hold := randomStream(random, random.IntN(3))
	s.Hold = hold[:min(len(hold), random.IntN(33))]
	s.Back = []string{"old", ""}[:random.IntN(3)]
	if !impl.ScreenOk(s) {
		t.Fatalf("not valid: %v", s)
	}
	return s
}

func TestFeedIsTheModel(t *testing.T) {
	random := rand.New(rand.NewPCG(4, 4))
	for range 20000 {
		s := randomScreen(t, random)
		b := randomStream(random, random.IntN(12))
		got, want := impl.Feed(s, b), plainFeed(s, b)
		if !sameScreen(got, want) {
			t.Fatalf("%s, held %q, and %q: %s, held %q, not %s, %q", look(s), s.Hold, b, look(got), got.Hold, look(want), want.Hold)
		}
		if !slices.Equal(impl.Lines(got), plainLines(want)) {
			t.Fatalf("%s: Lines %q, not %q", look(got), impl.Lines(got), plainLines(want))
		}
	}
}

func TestFeedPieceByPiece(t *testing.T) {
	random := rand.New(rand.NewPCG(5, 5))
	for range 1500 {
		s := randomScreen(t, random)
		b := randomStream(random, random.IntN(12))
		whole := impl.Feed(s, b)
		for cut := 0; cut <= len(b); cut++ {
			half := impl.Feed(s, b[:cut])
			if !impl.ScreenOk(half) || len(half.Back) < len(s.Back) || !slices.Equal(half.Back[:len(s.Back)], s.Back) {
				t.Fatalf("%s and %q: not valid, or Back is less: %v", look(s), b[:cut], half)
			}
			if got := impl.Feed(half, b[cut:]); !sameScreen(got, whole) {
				t.Fatalf("%s, held %q, and %q cut at %d: %s, held %q, not %s, %q", look(s), s.Hold, b, cut, look(got), got.Hold, look(whole), whole.Hold)
			}
		}
		one := impl.Feed(s, nil)
		for _, c := range b {
			one = impl.Feed(one, []byte{c})
		}
		if !sameScreen(one, whole) {
			t.Fatalf("%s, held %q, and %q byte by byte: %s, held %q, not %s, %q", look(s), s.Hold, b, look(one), one.Hold, look(whole), whole.Hold)
		}
	}
}

func TestFeedOfAllShortBytes(t *testing.T) {
	s := screenOf(t, 3, 2, "ab\u4e16\x1b[A")
	for _, front := range []string{"", "\x1b", "\x1b[", "\x1b[1", "\xe4", "\xe0", "\xed", "\xf0\x9f", "\xf4"} {
		for i := range 256 {
			for _, b := range edgeBytes {
				in := append([]byte(front), byte(i), b)
				if got, want := impl.Feed(s, in), plainFeed(s, in); !sameScreen(got, want) {
					t.Fatalf("%q: %s, held %q, not %s, %q", in, look(got), got.Hold, look(want), want.Hold)
				}
			}
		}
	}
}

func TestFeedOfEveryRune(t *testing.T) {
	s := screenOf(t, 4, 2, "ab")
	for _, r := range edgeRunes() {
		in := []byte(string(r))
		if got, want := impl.Feed(s, in), plainFeed(s, in); !sameScreen(got, want) {
			t.Errorf("%#x: %s, not %s", r, look(got), look(want))
		}
	}
}

func TestFeedOfTheGreatestScreen(t *testing.T) {
	s := screenOf(t, impl.MaxCols, impl.MaxRows, strings.Repeat("0123456789", 2000)+"x\u4e16")
	if got := impl.Lines(s); len(got) != 101 || len(got[0]) != 200 || got[100] != "x\u4e16" || len(s.Back) != 1 || s.Col != 3 {
		t.Errorf("%d lines, %d back, column %d", len(got), len(s.Back), s.Col)
	}
}

// roomyScreen is the same screen with spare room behind each list.
func roomyScreen(s impl.Screen) impl.Screen {
	s.Grid = roomy(s.Grid)
	for i, row := range s.Grid {
		s.Grid[i] = roomy(row)
	}
	s.Hold = roomy(s.Hold)
	s.Back = roomy(s.Back)
	return s
}

func checkScreenMemory(t *testing.T, name string, given impl.Screen) {
	t.Helper()
	s := roomyScreen(given)
	checkMemory(t, name+": ScreenOk", []any{s}, func() []any { return []any{impl.ScreenOk(s)} })
	checkMemory(t, name+": Lines", []any{s}, func() []any { return []any{impl.Lines(s)} })
	checkMemory(t, name+": Resize", []any{s}, func() []any {
		got, _ := impl.Resize(s, 9, 9)
		return []any{got}
	})
	for _, text := range []string{"", "x", "\u0301", "\r\n\n\n\nab\u4e16", "\x1b[J\x1b[1;", "\xe4\xb8", "\x96"} {
		b := roomy([]byte(text))
		checkMemory(t, name+": Feed", []any{s, b}, func() []any { return []any{impl.Feed(s, b)} })
	}
}

func TestScreenMemory(t *testing.T) {
	checkMemory(t, "NewScreen", nil, func() []any {
		s, _ := impl.NewScreen(3, 3)
		return []any{s}
	})
	for name, s := range brokenScreens(t) {
		checkScreenMemory(t, name, s)
	}
	random := rand.New(rand.NewPCG(6, 6))
	for range 50 {
		checkScreenMemory(t, "a valid screen", randomScreen(t, random))
	}
}
