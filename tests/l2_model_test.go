package tests

import (
	"slices"
	"strings"

	"loop.example/s01474/impl"
)

// model is the document's second chapter once more, written to be held against
// the program: it looks at all the bytes at once and has no states.
type model struct {
	impl.Screen
}

// begins says whether bytes are the beginning, and no more, of a rune: whether a
// valid one of that length lies between what the least and the greatest bytes
// behind them would make of it.
func begins(b []byte) bool {
	for n := len(b) + 1; n <= 4; n++ {
		lead := byte(0xff << (8 - n))
		if b[0]&(lead>>1|0x80) != lead {
			continue
		}
		low := int32(b[0] & (0xff >> (n + 1)))
		for _, c := range b[1:] {
			if c&0xc0 != 0x80 {
				return false
			}
			low = low<<6 | int32(c&0x3f)
		}
		missing := 6 * (n - len(b))
		high := (low+1)<<missing - 1
		low <<= missing
		for r := low; r <= high; r++ {
			if validRune(r) && shortest(r) == n {
				return true
			}
		}
	}
	return false
}

func plainFeed(s impl.Screen, b []byte) impl.Screen {
	m := model{cloneScreen(s)}
	rest := slices.Concat(s.Hold, b)
	for len(rest) > 0 {
		n := m.one(rest)
		if n == 0 {
			break
		}
		rest = rest[n:]
	}
	m.Hold = rest
	return m.Screen
}

// one does what stands at the front and gives its number of bytes, 0 when it is
// not finished.
func (m *model) one(b []byte) int {
	if b[0] == 27 {
		return m.sequence(b)
	}
	r, n := decode(b)
	if n == 0 && begins(b) {
		return 0
	}
	if n == 0 {
		r, n = 0xfffd, 1
	}
	m.rune(r)
	return n
}

func (m *model) sequence(b []byte) int {
	if len(b) == 1 {
		return 0
	}
	if b[1] != '[' {
		return 2
	}
	end := 2
	for end < len(b) && end < 33 && b[end] >= 48 && b[end] <= 63 {
		end++
	}
	if end == 33 {
		return 33
	}
	if end == len(b) {
		return 0
	}
	if b[end] >= 64 && b[end] <= 126 {
		m.order(string(b[2:end]), b[end])
	}
	return end + 1
}

func (m *model) rune(r int32) {
	switch {
	case r == 13:
		m.Col, m.Late = 0, false
	case r == 10:
		m.down()
	case r < 0x20 || r >= 0x7f && r <= 0x9f:
	case plainWidth(r) == 0:
		m.mark(string(r))
	default:
		m.piece(string(r), plainWidth(r))
	}
}

func (m *model) down() {
	m.Late = false
	if m.Row+1 < m.Rows {
		m.Row++
		return
	}
	m.Back = append(m.Back, textOfRow(m.Grid[0]))
	for i := 1; i < m.Rows; i++ {
		copy(m.Grid[i-1], m.Grid[i])
	}
	for i := range m.Cols {
		m.Grid[m.Rows-1][i] = impl.Cell{}
	}
}

func (m *model) mark(text string) {
	at := m.Col
	if !m.Late {
		at--
	}
	if at >= 0 && m.Grid[m.Row][at].Half {
		at--
	}
	if at < 0 || m.Grid[m.Row][at].Text == "" || len(m.Grid[m.Row][at].Text) > impl.MaxCell {
		return
	}
	m.Grid[m.Row][at].Text += text
}

func (m *model) piece(text string, width int) {
	if m.Late || m.Col+width > m.Cols {
		m.rune(13)
		m.rune(10)
	}
	row := m.Grid[m.Row]
	next := m.Col + width
	if row[m.Col].Half {
		row[m.Col-1] = impl.Cell{}
	}
	if next < m.Cols && row[next].Half {
		row[next] = impl.Cell{}
	}
	row[m.Col] = impl.Cell{Text: text}
	if width == 2 {
		row[m.Col+1] = impl.Cell{Half: true}
	}
	m.Col, m.Late = next, false
	if next == m.Cols {
		m.Col, m.Late = m.Cols-1, true
	}
}

func (m *model) order(between string, last byte) {
	if len(between) > 4 || strings.Trim(between, "0123456789") != "" {
		return
	}
	n := 0
	for _, c := range between {
		n = 10*n + int(c-'0')
	}
	if (last == 'K' || last == 'J') && n == 0 {
		m.wipe(last == 'J')
	}
	by := n
	if by == 0 {
		by = 1
	}
	for range by {
		switch {
		case last == 'A' && m.Row > 0:
			m.Row--
		case last == 'B' && m.Row < m.Rows-1:
			m.Row++
		case last == 'C' && m.Col < m.Cols-1:
			m.Col++
		case last == 'D' && m.Col > 0:
			m.Col--
		}
	}
	if last == 'G' {
		m.Col = min(by, m.Cols) - 1
	}
	if strings.IndexByte("ABCDG", last) >= 0 {
		m.Late = false
	}
}

func (m *model) wipe(below bool) {
	if m.Grid[m.Row][m.Col].Half {
		m.Grid[m.Row][m.Col-1] = impl.Cell{}
	}
	for i := range m.Grid {
		for j := range m.Grid[i] {
			if i == m.Row && j >= m.Col || below && i > m.Row {
				m.Grid[i][j] = impl.Cell{}
			}
		}
	}
}

func textOfRow(row []impl.Cell) string {
	out := ""
	for _, c := range row {
		if c.Text == "" && !c.Half {
			out += " "
		}
		out += c.Text
	}
	for strings.HasSuffix(out, " ") {
		out = out[:len(out)-1]
	}
	return out
}

func plainLines(s impl.Screen) []string {
	out := slices.Clone(s.Back)
	last := s.Row
	for i, row := range s.Grid {
		if textOfRow(row) != "" {
			last = max(last, i)
		}
	}
	for _, row := range s.Grid[:last+1] {
		out = append(out, textOfRow(row))
	}
	return out
}

func cloneScreen(s impl.Screen) impl.Screen {
	out := s
	out.Grid = nil
	for _, row := range s.Grid {
		out.Grid = append(out.Grid, slices.Clone(row))
	}
	out.Hold = slices.Clone(s.Hold)
	out.Back = slices.Clone(s.Back)
	return out
}

func sameScreen(a, b impl.Screen) bool {
	return a.Cols == b.Cols && a.Rows == b.Rows && a.Row == b.Row && a.Col == b.Col && a.Late == b.Late &&
		slices.Equal(a.Hold, b.Hold) && slices.Equal(a.Back, b.Back) &&
		slices.EqualFunc(a.Grid, b.Grid, func(x, y []impl.Cell) bool { return slices.Equal(x, y) })
}
