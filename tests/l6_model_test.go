package tests

import (
	"fmt"
	"slices"
	"strings"

	"loop.example/s01474/impl"
)

// plainLayout is chapter 6's Layout, piece by piece with the cursor's place on
// the way, and rows taken off at the front until the cursor is seen.
func plainLayout(prompt string, l impl.Line, cols, rows int) impl.Block {
	if cols < 2 || cols > 200 || rows < 1 || rows > 100 {
		return impl.Block{}
	}
	b := impl.Block{Rows: []string{""}, Row: -1}
	col := 0
	for i, text := range []string{prompt, l.Left, l.Right} {
		for j, piece := range plainClusters(plainClean([]byte(text))) {
			if col+piece.Width > cols {
				b.Rows = append(b.Rows, "")
				col = 0
			}
			if i == 2 && j == 0 {
				b.Row, b.Col = len(b.Rows)-1, col
			}
			b.Rows[len(b.Rows)-1] += plainText(piece.Runes)
			col += piece.Width
		}
	}
	if b.Row < 0 {
		if col == cols {
			b.Rows = append(b.Rows, "")
			col = 0
		}
		b.Row, b.Col = len(b.Rows)-1, col
	}
	for b.Row >= rows {
		b.Rows = b.Rows[1:]
		b.Row--
	}
	b.Rows = b.Rows[:min(len(b.Rows), rows)]
	return b
}

func plainBlockOk(b impl.Block) bool {
	return len(b.Rows) > 0 && b.Row >= 0 && b.Row <= len(b.Rows)-1 && b.Col >= 0 && b.Col <= 199
}

func plainPaint(b impl.Block) string {
	if !plainBlockOk(b) {
		return ""
	}
	out := b.Rows[0]
	for _, row := range b.Rows[1:] {
		out += "\r\n" + row
	}
	if up := len(b.Rows) - 1 - b.Row; up != 0 {
		out += fmt.Sprintf("\x1b[%dA", up)
	}
	return out + fmt.Sprintf("\x1b[%dG", b.Col+1)
}

func plainErase(b impl.Block) string {
	if !plainBlockOk(b) {
		return ""
	}
	if b.Row == 0 {
		return "\r\x1b[J"
	}
	return fmt.Sprintf("\r\x1b[%dA\x1b[J", b.Row)
}

func plainRedraw(a, b impl.Block) string {
	if !plainBlockOk(a) || !plainBlockOk(b) {
		return ""
	}
	if !slices.Equal(a.Rows, b.Rows) {
		return plainErase(a) + plainPaint(b)
	}
	out := ""
	switch {
	case b.Row < a.Row:
		out = fmt.Sprintf("\x1b[%dA", a.Row-b.Row)
	case b.Row > a.Row:
		out = fmt.Sprintf("\x1b[%dB", b.Row-a.Row)
	}
	if b.Col != a.Col {
		out += fmt.Sprintf("\x1b[%dG", b.Col+1)
	}
	return out
}

// shownOf is what Lines must have of a block.
func shownOf(b impl.Block) []string {
	var out []string
	last := b.Row
	for i, row := range b.Rows {
		out = append(out, strings.TrimRight(row, " "))
		if out[i] != "" {
			last = max(last, i)
		}
	}
	return out[:last+1]
}

func sameBlock(a, b impl.Block) bool {
	return slices.Equal(a.Rows, b.Rows) && a.Row == b.Row && a.Col == b.Col
}

// widthOfText is the columns of a text, each rune counted.
func widthOfText(text string) int {
	n := 0
	for _, r := range plainDecode([]byte(text)) {
		n += plainWidth(r)
	}
	return n
}
