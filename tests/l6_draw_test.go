package tests

import (
	"math"
	"math/rand/v2"
	"slices"
	"strings"
	"testing"

	"loop.example/s01474/impl"
)

// checkLayout asks for what the model gives and, of a valid line, for promise 7.
func checkLayout(t *testing.T, prompt string, l impl.Line, cols, rows int) impl.Block {
	t.Helper()
	got, want := impl.Layout(prompt, l, cols, rows), plainLayout(prompt, l, cols, rows)
	if !sameBlock(got, want) {
		t.Fatalf("%q, %q and %q in %d columns, %d rows: %+v, not %+v", prompt, l.Left, l.Right, cols, rows, got, want)
	}
	if cols < 2 || cols > impl.MaxCols || rows < 1 || rows > impl.MaxRows {
		return got
	}
	if len(got.Rows) < 1 || len(got.Rows) > rows || got.Row < 0 || got.Row >= len(got.Rows) || got.Col < 0 || got.Col >= cols {
		t.Fatalf("%q, %q and %q in %d columns, %d rows: the cursor is not within %+v", prompt, l.Left, l.Right, cols, rows, got)
	}
	for _, row := range got.Rows {
		if widthOfText(row) > cols {
			t.Fatalf("%q, %q and %q in %d columns, %d rows: %q is wider", prompt, l.Left, l.Right, cols, rows, row)
		}
	}
	return got
}

func TestLayoutByHand(t *testing.T) {
	for _, c := range []struct {
		prompt, line string
		cols, rows   int
		want         string
		row, col     int
	}{
		// what is empty
		{"", "|", 2, 1, "", 0, 0}, {"> ", "|", 5, 3, "> ", 0, 2}, {"", "ab|", 5, 3, "ab", 0, 2}, {"", "|ab", 5, 3, "ab", 0, 0}, {"> ", "a|", 5, 3, "> a", 0, 3}, {"> ", "|a", 5, 3, "> a", 0, 2}, {"", "a|b", 5, 3, "ab", 0, 1},
		// a row that is full
		{"> ", "abc|", 5, 3, "> abc,", 1, 0}, {"> ", "ab|c", 5, 3, "> abc", 0, 4}, {"> ", "abc|d", 5, 3, "> abc,d", 1, 0}, {"> ", "|abc", 5, 3, "> abc", 0, 2}, {">>>>>", "|", 5, 3, ">>>>>,", 1, 0}, {">>>>>", "|a", 5, 3, ">>>>>,a", 1, 0}, {"", "|abcde", 5, 3, "abcde", 0, 0},
		{"> ", "abcdefgh|", 5, 3, "> abc,defgh,", 2, 0}, {"", "ab|", 2, 2, "ab,", 1, 0}, {"", "ab|", 2, 1, "", 0, 0}, {"", "a|b", 2, 1, "ab", 0, 1},
		// pieces of two columns
		{"", "abcd|\u4e16", 5, 3, "abcd,\u4e16", 1, 0}, {"", "abcd\u4e16|", 5, 3, "abcd,\u4e16", 1, 2}, {"", "abc|\u4e16", 5, 3, "abc\u4e16", 0, 3}, {"", "abc\u4e16|", 5, 3, "abc\u4e16,", 1, 0}, {"", "abcd|", 5, 3, "abcd", 0, 4}, {"", "\u4e16\u4e16|", 2, 9, "\u4e16,\u4e16,", 2, 0}, {"", "a\u4e16|b", 2, 9, "a,\u4e16,b", 2, 0}, {"", "a\u4e16|b", 3, 9, "a\u4e16,b", 1, 0}, {"abcd", "|\u4e16", 5, 1, "\u4e16", 0, 0},
		// marks
		{"> ", "e\u0301\u0302|x", 5, 3, "> e\u0301\u0302x", 0, 3}, {"> ", "\u0301|", 5, 3, "> \u25cc\u0301", 0, 3}, {"> ", "a|\u0301", 5, 3, "> a\u25cc\u0301", 0, 3}, {"\u0301", "|", 5, 3, "\u25cc\u0301", 0, 1}, {"> ", "abc\u0301|", 5, 3, "> abc\u0301,", 1, 0}, {"> ", "abc|\u0301", 5, 3, "> abc,\u25cc\u0301", 1, 0},
		// more rows than the screen has
		{"", "|abcdef", 2, 2, "ab,cd", 0, 0}, {"", "ab|cdef", 2, 2, "ab,cd", 1, 0}, {"", "abc|def", 2, 2, "ab,cd", 1, 1}, {"", "abcd|ef", 2, 2, "cd,ef", 1, 0}, {"", "abcdef|gh", 2, 2, "ef,gh", 1, 0}, {"", "abcdef|", 2, 2, "ef,", 1, 0}, {"", "abcdefg|h", 2, 2, "ef,gh", 1, 1}, {"", "abcdefgh|", 2, 3, "ef,gh,", 2, 0},
		{"", "|abcdef", 2, 1, "ab", 0, 0}, {"", "abc|def", 2, 1, "cd", 0, 1}, {"", "abcd|ef", 2, 1, "ef", 0, 0}, {"", "abcdef|", 2, 3, "cd,ef,", 2, 0}, {"", "abcdef|", 2, 4, "ab,cd,ef,", 3, 0}, {"", "abcde|f", 2, 3, "ab,cd,ef", 2, 1},
		// spaces, and what can't be shown
		{"> ", "a   |", 5, 3, "> a  , ", 1, 1}, {"", "|      ", 5, 3, "     , ", 0, 0}, {"a\tb\x01\xff\u0085", "|", 9, 3, "a b\ufffd\ufffd\ufffd", 0, 6}, {"\xe4\xb8", "\xff|\n", 9, 3, "\ufffd\ufffd\ufffd\ufffd", 0, 3}, {"a\r\nb", "|", 9, 3, "a\ufffd\ufffdb", 0, 4},
	} {
		b := checkLayout(t, c.prompt, lineAt(c.line), c.cols, c.rows)
		if got := strings.Join(b.Rows, ","); got != c.want || b.Row != c.row || b.Col != c.col {
			t.Errorf("%q and %q in %d columns, %d rows: %q, %d, %d", c.prompt, c.line, c.cols, c.rows, got, b.Row, b.Col)
		}
	}
}

func TestLayoutOfSizes(t *testing.T) {
	l := impl.Line{Left: times("word ", 30), Right: times("\u4e16\u0301", 75)}
	for _, cols := range []int{math.MinInt, -1, 0, 1, 2, 3, 10, 199, 200, 201, math.MaxInt} {
		for _, rows := range []int{math.MinInt, -1, 0, 1, 2, 3, 10, 99, 100, 101, math.MaxInt} {
			for _, l := range []impl.Line{{}, {Left: "a"}, l, {Left: l.Left + l.Right}, {Right: l.Right}, {Left: times("x", 200)}} {
				b := checkLayout(t, "> ", l, cols, rows)
				outside := cols < 2 || cols > 200 || rows < 1 || rows > 100
				if outside != (len(b.Rows) == 0) || outside && !sameBlock(b, impl.Block{}) {
					t.Errorf("%d columns, %d rows: %+v", cols, rows, b)
				}
			}
		}
	}
}

// linePieces are what lines and prompts in these tests are made of.
var linePieces = []string{"a", "bc", " ", "   ", "\u4e16", "\U0001f600\u754c", "e\u0301", " \u0301", "\u25cc\u0301", "x\u200b\ufe0f", "\u00a0", "\ufffd"}

func randomText(random *rand.Rand, most int) string {
	out := ""
	for range random.IntN(most + 1) {
		out += linePieces[random.IntN(len(linePieces))]
	}
	return out
}

func randomLine(random *rand.Rand, most int) impl.Line {
	return impl.Line{Left: randomText(random, most), Right: randomText(random, most)}
}

func TestLayoutIsTheModel(t *testing.T) {
	random := rand.New(rand.NewPCG(61, 1))
	for range 20000 {
		checkLayout(t, randomText(random, 4), randomLine(random, 12), 2+random.IntN(7), 1+random.IntN(6))
	}
	for range 2000 {
		prompt := string(randomStream(random, random.IntN(4)))
		l := impl.Line{Left: string(randomStream(random, random.IntN(6))), Right: string(randomStream(random, random.IntN(6)))}
		checkLayout(t, prompt, l, random.IntN(9), random.IntN(6))
	}
}

func TestLayoutTakesAnyLine(t *testing.T) {
	for _, l := range append(soundLines(), brokenLines()...) {
		for _, prompt := range []string{"", "> ", "\xff\x01", "\u0301", times("p", 500)} {
			for _, size := range [][2]int{{2, 1}, {2, 100}, {7, 3}, {200, 100}} {
				got := checkLayout(t, prompt, l, size[0], size[1])
				// Kill and Undo are not shown.
				bare := impl.Layout(prompt, impl.Line{Left: l.Left, Right: l.Right}, size[0], size[1])
				if !sameBlock(got, bare) {
					t.Fatalf("%+v: %+v, not %+v", l, got, bare)
				}
			}
		}
	}
}

func rowsOf(text string) []string {
	return strings.Split(text, ",")
}

func TestBytesByHand(t *testing.T) {
	many := slices.Repeat([]string{"r"}, 1234)
	three := impl.Block{Rows: rowsOf("> ab ,cd,"), Row: 1, Col: 1}
	at := func(row, col int) impl.Block { return impl.Block{Rows: three.Rows, Row: row, Col: col} }
	for _, c := range []struct {
		name, got, want string
	}{
		{"one row", string(impl.Paint(impl.Block{Rows: rowsOf("> "), Col: 2})), "> \x1b[3G"},
		{"one empty row", string(impl.Paint(impl.Block{Rows: rowsOf("")})), "\x1b[1G"},
		{"the middle row", string(impl.Paint(three)), "> ab \r\ncd\r\n\x1b[1A\x1b[2G"},
		{"the last row", string(impl.Paint(at(2, 0))), "> ab \r\ncd\r\n\x1b[1G"},
		{"the first row", string(impl.Paint(at(0, 8))), "> ab \r\ncd\r\n\x1b[2A\x1b[9G"},
		{"two digits", string(impl.Paint(impl.Block{Rows: many[:11], Col: 9})), times("r\r\n", 10) + "r\x1b[10A\x1b[10G"},
		{"three digits", string(impl.Paint(impl.Block{Rows: many[:124], Col: 99})), times("r\r\n", 123) + "r\x1b[123A\x1b[100G"},
		{"four digits", string(impl.Paint(impl.Block{Rows: many, Row: 233, Col: 199})), times("r\r\n", 1233) + "r\x1b[1000A\x1b[200G"},
		{"any bytes", string(impl.Paint(impl.Block{Rows: rowsOf("\x1b[J\xff,\n"), Row: 1})), "\x1b[J\xff\r\n\n\x1b[1G"},
		{"erase in the first row", string(impl.Erase(at(0, 8))), "\r\x1b[J"},
		{"erase in another row", string(impl.Erase(at(2, 8))), "\r\x1b[2A\x1b[J"},
		{"erase, two digits", string(impl.Erase(impl.Block{Rows: many, Row: 10})), "\r\x1b[10A\x1b[J"},
		{"erase, three digits", string(impl.Erase(impl.Block{Rows: many, Row: 456})), "\r\x1b[456A\x1b[J"},
		{"redraw the same", string(impl.Redraw(three, three)), ""},
		{"redraw to the side", string(impl.Redraw(three, at(1, 4))), "\x1b[5G"},
		{"redraw to the front", string(impl.Redraw(three, at(1, 0))), "\x1b[1G"},
		{"redraw up", string(impl.Redraw(at(2, 1), at(0, 1))), "\x1b[2A"},
		{"redraw down", string(impl.Redraw(at(0, 1), at(1, 1))), "\x1b[1B"},
		{"redraw up and to the side", string(impl.Redraw(at(1, 0), at(0, 11))), "\x1b[1A\x1b[12G"},
		{"redraw down and to the side", string(impl.Redraw(at(0, 11), at(2, 0))), "\x1b[2B\x1b[1G"},
		{"redraw far up", string(impl.Redraw(impl.Block{Rows: many, Row: 1233}, impl.Block{Rows: many, Row: 3})), "\x1b[1230A"},
		{"redraw far down", string(impl.Redraw(impl.Block{Rows: many, Row: 5}, impl.Block{Rows: many, Row: 15, Col: 99})), "\x1b[10B\x1b[100G"},
		{"redraw with a space more", string(impl.Redraw(impl.Block{Rows: rowsOf("a"), Col: 1}, impl.Block{Rows: rowsOf("a "), Col: 1})), "\r\x1b[Ja \x1b[2G"},
		{"redraw with a row more", string(impl.Redraw(impl.Block{Rows: rowsOf("a"), Col: 1}, impl.Block{Rows: rowsOf("a,"), Row: 1})), "\r\x1b[Ja\r\n\x1b[1G"},
		{"redraw with a row less", string(impl.Redraw(impl.Block{Rows: rowsOf("a,"), Row: 1}, impl.Block{Rows: rowsOf("a"), Col: 1})), "\r\x1b[1A\x1b[Ja\x1b[2G"},
		{"redraw with another row", string(impl.Redraw(three, impl.Block{Rows: rowsOf("> ab ,ce,"), Row: 1, Col: 1})), "\r\x1b[1A\x1b[J> ab \r\nce\r\n\x1b[1A\x1b[2G"},
	} {
		if c.got != c.want {
			t.Errorf("%s: %q, not %q", c.name, c.got, c.want)
		}
	}
}

// brokenBlocks has one for each way in which there is nothing to draw.
func brokenBlocks() []impl.Block {
	two := []string{"a", "b"}
	return []impl.Block{
		{}, {Rows: []string{}}, {Row: -1}, {Col: 1}, {Row: 1, Col: 1}, {Rows: two, Row: -1}, {Rows: two, Row: 2}, {Rows: two, Row: 3}, {Rows: two, Row: math.MinInt}, {Rows: two, Row: math.MaxInt},
		{Rows: two, Col: -1}, {Rows: two, Col: 200}, {Rows: two, Col: 201}, {Rows: two, Col: math.MinInt}, {Rows: two, Col: math.MaxInt}, {Rows: two, Row: 1, Col: 200}, {Rows: two, Row: 2, Col: 200}, {Rows: []string{""}, Row: 1},
	}
}

func soundBlocks() []impl.Block {
	two := []string{"a", "b"}
	return []impl.Block{{Rows: two}, {Rows: two, Row: 1}, {Rows: two, Col: 199}, {Rows: two, Row: 1, Col: 199}, {Rows: []string{""}}, {Rows: []string{"", ""}, Row: 1}, {Rows: []string{"a"}, Col: 1}, {Rows: slices.Repeat(two, 80), Row: 159, Col: 10}}
}

func TestBrokenBlocks(t *testing.T) {
	for i, bad := range brokenBlocks() {
		if paint, erase := impl.Paint(bad), impl.Erase(bad); len(paint) > 0 || len(erase) > 0 {
			t.Errorf("broken block %d: %q, %q", i, paint, erase)
		}
		for j, other := range append(brokenBlocks(), soundBlocks()...) {
			if to, from := impl.Redraw(other, bad), impl.Redraw(bad, other); len(to) > 0 || len(from) > 0 {
				t.Errorf("broken block %d and %d: %q, %q", i, j, to, from)
			}
		}
	}
}

func TestSoundBlocks(t *testing.T) {
	for _, a := range soundBlocks() {
		if got, want := string(impl.Paint(a)), plainPaint(a); got != want || want == "" {
			t.Errorf("Paint of %+v: %q, not %q", a, got, want)
		}
		if got, want := string(impl.Erase(a)), plainErase(a); got != want || want == "" {
			t.Errorf("Erase of %+v: %q, not %q", a, got, want)
		}
		for _, b := range soundBlocks() {
			if got, want := string(impl.Redraw(a, b)), plainRedraw(a, b); got != want {
				t.Errorf("Redraw of %+v to %+v: %q, not %q", a, b, got, want)
			}
		}
	}
}

// restingScreen has any rows above a row that is blank, like all below, with the
// cursor at its front.
func restingScreen(t *testing.T, cols, rows, row int, texts ...string) impl.Screen {
	t.Helper()
	s := screenOf(t, cols, rows, "")
	s.Row = row
	for i := range row {
		line := screenOf(t, cols, 1, "")
		if len(texts) > 0 {
			line = impl.Feed(line, []byte(texts[i%len(texts)]))
		}
		copy(s.Grid[i], line.Grid[0])
	}
	s.Back = slices.Clone(texts)
	if !impl.ScreenOk(s) {
		t.Fatalf("not valid: %v", s)
	}
	return s
}

// checkShown asks that a screen shows a block behind the rows above, and nothing else.
func checkShown(t *testing.T, name string, s impl.Screen, above []string, b impl.Block) {
	t.Helper()
	if got, want := impl.Lines(s), slices.Concat(above, shownOf(b)); !slices.Equal(got, want) {
		t.Fatalf("%s of %+v: %q, not %q", name, b, got, want)
	}
	if row := len(s.Back) + s.Row; row != len(above)+b.Row || s.Col != b.Col || s.Late || len(s.Hold) > 0 {
		t.Fatalf("%s of %+v: the cursor is at %d, %d, not %d, %d; late %v, held %q", name, b, row, s.Col, len(above)+b.Row, b.Col, s.Late, s.Hold)
	}
}

// fed reads bytes by the model of the terminal too: no fault of the one may hide
// a fault in the bytes.
func fed(t *testing.T, s impl.Screen, b []byte) impl.Screen {
	t.Helper()
	got := impl.Feed(s, b)
	if want := plainFeed(s, b); !sameScreen(got, want) {
		t.Fatalf("%s with %q: %s, not %s", look(s), b, look(got), look(want))
	}
	return got
}

// checkDrawn asks for promise 8, and for the very bytes.
func checkDrawn(t *testing.T, s impl.Screen, a, b impl.Block) {
	t.Helper()
	paint, erase, redraw := impl.Paint(a), impl.Erase(a), impl.Redraw(a, b)
	if string(paint) != plainPaint(a) || string(erase) != plainErase(a) || string(redraw) != plainRedraw(a, b) {
		t.Fatalf("%+v to %+v: %q, %q, %q", a, b, paint, erase, redraw)
	}
	blank := impl.Block{Rows: []string{""}}
	lines := impl.Lines(s)
	above := lines[:len(lines)-1]
	checkShown(t, "the screen", s, above, blank)
	painted := fed(t, s, paint)
	checkShown(t, "Paint", painted, above, a)
	checkShown(t, "Erase", fed(t, painted, erase), above, blank)
	redrawn := fed(t, painted, redraw)
	checkShown(t, "Redraw", redrawn, above, b)
	direct := fed(t, s, impl.Paint(b))
	if !slices.Equal(impl.Lines(redrawn), impl.Lines(direct)) {
		t.Fatalf("%+v to %+v: %q, not %q", a, b, impl.Lines(redrawn), impl.Lines(direct))
	}
}

func TestDrawnBlocksByHand(t *testing.T) {
	const cols, rows = 4, 3
	var blocks []impl.Block
	for _, text := range []string{
		"|", "a|", "|a", "abc|", "ab|c", "|abc", "abcd|", "abc|d", "ab|cd", "|abcd", "abcd|e", "abcde|", "abcdefgh|", "abcdefg|h", "abcd|efgh", "|abcdefgh", "abcdefghijkl|", "abcdefghijk|l", "abcdefgh|ijkl", "abcd|efghijkl", "|abcdefghijkl", "abcdefghijklmnop|", "abcdefghijkl|mnop", "|abcdefghijklmnop",
		"a   |", "a  | ", "  |  ", "    |", "   | ", "|     ", "a       |", "a   |    ", "|a       ", "    ab|", "abc |de",
		"abc|\u4e16", "abc\u4e16|", "ab\u4e16|", "ab|\u4e16", "\u4e16\u4e16|", "\u4e16a\u4e16|b", "|a\u4e16\u4e16", "e\u0301|", "abce\u0301|", "abc|e\u0301x", "\u25cc\u0301|",
	} {
		for _, prompt := range []string{"", "> "} {
			blocks = append(blocks, impl.Layout(prompt, lineAt(text), cols, rows))
		}
	}
	for row := range rows {
		for _, texts := range [][]string{nil, {"old", "", "\u4e16x", "full"}} {
			s := restingScreen(t, cols, rows, row, texts...)
			for _, a := range blocks {
				for _, b := range blocks {
					checkDrawn(t, s, a, b)
				}
			}
		}
	}
}

func TestDrawnBlocksOfAnySize(t *testing.T) {
	random := rand.New(rand.NewPCG(62, 1))
	for range 4000 {
		cols, rows := 2+random.IntN(8), 1+random.IntN(6)
		s := restingScreen(t, cols, rows, random.IntN(rows), []string{"one", "", "\u4e16\u4e16"}[:random.IntN(4)]...)
		prompt := randomText(random, 3)
		a, b := randomLine(random, 8), randomLine(random, 8)
		if random.IntN(2) == 0 {
			// The same text, with the cursor in another place.
			all := piecesOf(a.Left + a.Right)
			to := random.IntN(len(all) + 1)
			b = impl.Line{Left: strings.Join(all[:to], ""), Right: strings.Join(all[to:], "")}
		}
		checkDrawn(t, s, impl.Layout(prompt, a, cols, rows), impl.Layout(prompt, b, cols, rows))
	}
}

func TestDrawnBlocksOfTheGreatestSize(t *testing.T) {
	for _, size := range [][2]int{{2, 1}, {2, 100}, {3, 100}, {200, 1}, {200, 2}, {200, 100}} {
		cols, rows := size[0], size[1]
		for _, row := range []int{0, rows / 2, rows - 1} {
			s := restingScreen(t, cols, rows, row, "a", "\u4e16")
			lines := []impl.Line{{}, {Left: times("x", 300)}, {Right: times("x", 300)}, {Left: times("x", 100), Right: times("\u4e16", 200)}, {Left: times("x", 200)}, {Left: times("\u4e16", 100)}, {Left: times("a\u0301", 150)}, {Left: times("x", 199), Right: "yz"}}
			for _, a := range lines {
				for _, b := range lines {
					checkDrawn(t, s, impl.Layout("", a, cols, rows), impl.Layout("", b, cols, rows))
				}
			}
		}
	}
}

// A line that is typed is drawn again and again, each time from what stands there.
func TestDrawnKeyByKey(t *testing.T) {
	random := rand.New(rand.NewPCG(63, 1))
	for range 60 {
		cols, rows := 2+random.IntN(8), 1+random.IntN(6)
		s := restingScreen(t, cols, rows, random.IntN(rows), "above")
		lines := impl.Lines(s)
		above := lines[:len(lines)-1]
		l := impl.Line{}
		at := impl.Layout("> ", l, cols, rows)
		s = fed(t, s, impl.Paint(at))
		for range 60 {
			l, _ = impl.Edit(l, randomKey(random))
			next := impl.Layout("> ", l, cols, rows)
			s = fed(t, s, impl.Redraw(at, next))
			checkShown(t, "Redraw", s, above, next)
			at = next
		}
	}
}

func TestDrawingMemory(t *testing.T) {
	for _, l := range append(soundLines(), brokenLines()...) {
		l.Undo = roomy(l.Undo)
		for _, size := range [][2]int{{2, 1}, {7, 3}, {200, 100}, {1, 1}} {
			checkMemory(t, "Layout", []any{l}, func() []any { return []any{impl.Layout("> ", l, size[0], size[1])} })
		}
	}
	for _, a := range append(soundBlocks(), brokenBlocks()...) {
		a.Rows = roomy(a.Rows)
		checkMemory(t, "Paint", []any{a}, func() []any { return []any{impl.Paint(a)} })
		checkMemory(t, "Erase", []any{a}, func() []any { return []any{impl.Erase(a)} })
		checkMemory(t, "Redraw to itself", []any{a}, func() []any { return []any{impl.Redraw(a, a)} })
		for _, b := range append(soundBlocks(), brokenBlocks()...) {
			b.Rows = roomy(b.Rows)
			checkMemory(t, "Redraw", []any{a, b}, func() []any { return []any{impl.Redraw(a, b)} })
		}
	}
}
