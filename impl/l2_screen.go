package impl

import (
	"strings"
	"unicode/utf8"
)

const MaxCols = 200
const MaxRows = 100
const MaxCell = 6000

// maxHold is ESC, '[' and the 30 bytes that a sequence may have behind them.
const maxHold = 32

// maxDigits is how many digits a sequence's number may have.
const maxDigits = 4

const escape = 0x1B

// Cell is described in the document.
type Cell struct {
	Text string
	Half bool
}

// Screen is described in the document.
type Screen struct {
	Cols int
	Rows int
	Grid [][]Cell
	Row  int
	Col  int
	Late bool
	Hold []byte
	Back []string
}

// NewScreen makes a screen.
func NewScreen(cols int, rows int) (Screen, bool) {
	if !sizeOk(cols, rows) {
		return Screen{}, false
	}
	return Screen{Cols: cols, Rows: rows, Grid: blankGrid(cols, rows)}, true
}

func sizeOk(cols int, rows int) bool {
	return 2 <= cols && cols <= MaxCols && 1 <= rows && rows <= MaxRows
}

func blankGrid(cols int, rows int) [][]Cell {
	grid := make([][]Cell, rows)
	for i := range grid {
		grid[i] = make([]Cell, cols)
	}
	return grid
}

// ScreenOk says whether a screen is valid.
func ScreenOk(s Screen) bool {
	ok := false
	withinGrid(func() {
		ok = sizeOk(s.Cols, s.Rows) && formOk(s) && cursorOk(s) && halvesOk(s) && len(s.Hold) <= maxHold
	})
	return ok
}

// outOfGrid is the panic of a place that a grid does not have.
type outOfGrid struct {
	row int
	col int
}

// withinGrid says whether work came to its end; a panic goes no further than
// here, because no face may let one out.
func withinGrid(work func()) (whole bool) {
	defer func() {
		if recover() != nil {
			whole = false
		}
	}()
	work()
	return true
}

func cellAt(grid [][]Cell, row int, col int) *Cell {
	if row < 0 || row >= len(grid) || col < 0 || col >= len(grid[row]) {
		panic(outOfGrid{row, col})
	}
	return &grid[row][col]
}

func formOk(s Screen) bool {
	if len(s.Grid) != s.Rows {
		return false
	}
	for _, row := range s.Grid {
		if len(row) != s.Cols {
			return false
		}
	}
	return true
}

func cursorOk(s Screen) bool {
	// Asked for its panic alone: a cursor outside has no cell.
	cellAt(s.Grid, s.Row, s.Col)
	return !s.Late || s.Col == s.Cols-1
}

func halvesOk(s Screen) bool {
	for row := range s.Grid {
		for col, cell := range s.Grid[row] {
			// In column 0 the cell in front is out of the grid: not valid either.
			if cell.Half && (cell.Text != "" || cellAt(s.Grid, row, col-1).Text == "") {
				return false
			}
		}
	}
	return true
}

// Feed reads bytes.
func Feed(s Screen, b []byte) Screen {
	if !ScreenOk(s) {
		return copyScreen(s)
	}
	fed := copyScreen(s)
	whole := withinGrid(func() {
		d := decoder{show: fed.show, obey: fed.obey}
		readAll(d.start(), s.Hold, b)
		fed.Hold = d.held
	})
	if !whole {
		return copyScreen(s)
	}
	return fed
}

func copyScreen(s Screen) Screen {
	same := s
	same.Grid = make([][]Cell, len(s.Grid))
	for i, row := range s.Grid {
		same.Grid[i] = append([]Cell(nil), row...)
	}
	same.Hold = append([]byte(nil), s.Hold...)
	same.Back = append([]string(nil), s.Back...)
	return same
}

// step is a state of a decoder: it takes a byte and gives the state that takes
// the next one.
type step func(b byte) step

func readAll(state step, pieces ...[]byte) {
	for _, piece := range pieces {
		for _, b := range piece {
			state = state(b)
		}
	}
}

// holder keeps the bytes of what is begun and not finished. A decoder that reads
// them anew comes to the same state.
type holder struct {
	held []byte
}

func (h *holder) hold(b byte) {
	h.held = append(h.held, b)
}

func (h *holder) release() []byte {
	held := h.held
	h.held = nil
	return held
}

// runeState is the state in which bytes come together to a rune; ground is the
// one behind it.
func (h *holder) runeState(ground step, found func(r rune)) step {
	var begun step
	begun = func(b byte) step {
		h.hold(b)
		if !utf8.FullRune(h.held) {
			return begun
		}
		held := h.release()
		r, size := utf8.DecodeRune(held)
		found(r)
		// Behind a byte that begins no rune there may be others, to be looked at anew.
		next := ground
		for _, again := range held[size:] {
			next = next(again)
		}
		return next
	}
	return begun
}

// decoder parts bytes into runes and sequences and hands each of them on.
type decoder struct {
	holder
	show func(r rune)
	obey func(between []byte, last byte)
}

// start ties the states together and gives the one in which nothing is held.
func (d *decoder) start() step {
	var ground, escaped, between, begun step
	ground = func(b byte) step {
		if b == escape {
			d.hold(b)
			return escaped
		}
		return begun(b)
	}
	begun = d.runeState(ground, d.show)
	escaped = func(b byte) step {
		if b != '[' {
			d.release()
			return ground
		}
		d.hold(b)
		return between
	}
	between = func(b byte) step {
		if isBetween(b) && len(d.held) < maxHold {
			d.hold(b)
			return between
		}
		held := d.release()
		if isLast(b) {
			d.obey(held[2:], b)
		}
		return ground
	}
	return ground
}

// isBetween says whether a byte may stand between ESC [ and a sequence's last one.
func isBetween(b byte) bool {
	return '0' <= b && b <= '?'
}

func isLast(b byte) bool {
	return '@' <= b && b <= '~'
}

func (s *Screen) show(r rune) {
	width := RuneWidth(r)
	switch {
	case r == '\r':
		s.carriageReturn()
	case r == '\n':
		s.lineFeed()
	case isControl(r):
	case width == 0:
		s.join(r)
	default:
		s.put(r, width)
	}
}

func (s *Screen) carriageReturn() {
	s.Col = 0
	s.Late = false
}

func (s *Screen) lineFeed() {
	s.Late = false
	if s.Row < s.Rows-1 {
		s.Row++
		return
	}
	s.Back = append(s.Back, rowText(s.Grid[0]))
	s.Grid = append(s.Grid[1:], make([]Cell, s.Cols))
}

// join puts a mark behind what stands in front of the cursor.
func (s *Screen) join(r rune) {
	col := s.Col - 1
	if s.Late {
		col = s.Col
	}
	if col < 0 {
		return
	}
	if s.cell(s.Row, col).Half {
		col--
	}
	base := s.cell(s.Row, col)
	if base.Text != "" && len(base.Text) <= MaxCell {
		base.Text += string(r)
	}
}

func (s *Screen) put(r rune, width int) {
	if s.Late || width == 2 && s.Col == s.Cols-1 {
		s.carriageReturn()
		s.lineFeed()
	}
	for i := range width {
		s.blank(s.Row, s.Col+i)
	}
	s.cell(s.Row, s.Col).Text = string(r)
	if width == 2 {
		s.cell(s.Row, s.Col+1).Half = true
	}
	s.Col += width
	if s.Col >= s.Cols {
		s.Col = s.Cols - 1
		s.Late = true
	}
}

func (s *Screen) cell(row int, col int) *Cell {
	return cellAt(s.Grid, row, col)
}

// blank makes a cell blank, and with it the other cell of its piece, because
// half a piece can't be shown.
func (s *Screen) blank(row int, col int) {
	if s.cell(row, col).Half {
		*s.cell(row, col-1) = Cell{}
	}
	if col+1 < s.Cols && s.cell(row, col+1).Half {
		*s.cell(row, col+1) = Cell{}
	}
	*s.cell(row, col) = Cell{}
}

func (s *Screen) obey(between []byte, last byte) {
	n, ok := sequenceNumber(between)
	if !ok {
		return
	}
	far := max(n, 1)
	switch last {
	case 'A':
		s.moveTo(s.Row-far, s.Col)
	case 'B':
		s.moveTo(s.Row+far, s.Col)
	case 'C':
		s.moveTo(s.Row, s.Col+far)
	case 'D':
		s.moveTo(s.Row, s.Col-far)
	case 'G':
		s.moveTo(s.Row, far-1)
	case 'K':
		if n == 0 {
			s.blankFrom(s.Row, s.Col)
		}
	case 'J':
		if n == 0 {
			s.blankBelow()
		}
	}
}

// sequenceNumber says false when a sequence has no number that counts.
func sequenceNumber(between []byte) (int, bool) {
	if len(between) > maxDigits {
		return 0, false
	}
	n := 0
	for _, b := range between {
		if b < '0' || b > '9' {
			return 0, false
		}
		n = n*10 + int(b-'0')
	}
	return n, true
}

func (s *Screen) moveTo(row int, col int) {
	s.Row = min(max(row, 0), s.Rows-1)
	s.Col = min(max(col, 0), s.Cols-1)
	s.Late = false
}

func (s *Screen) blankFrom(row int, col int) {
	for col < s.Cols {
		s.blank(row, col)
		col++
	}
}

func (s *Screen) blankBelow() {
	s.blankFrom(s.Row, s.Col)
	for row := s.Row + 1; row < s.Rows; row++ {
		s.blankFrom(row, 0)
	}
}

// Resize gives a screen another size.
func Resize(s Screen, cols int, rows int) (Screen, bool) {
	if !ScreenOk(s) {
		return Screen{}, false
	}
	resized, ok := NewScreen(cols, rows)
	if ok {
		resized.Back = Lines(s)
	}
	return resized, ok
}

// Lines is all that a screen has shown.
func Lines(s Screen) []string {
	if !ScreenOk(s) {
		return nil
	}
	lines := append([]string(nil), s.Back...)
	for _, row := range s.Grid[:shownRows(s)] {
		lines = append(lines, rowText(row))
	}
	return lines
}

// shownRows leaves out the rows behind both the cursor's and the last with a text.
func shownRows(s Screen) int {
	shown := s.Rows
	for shown > s.Row+1 && rowText(s.Grid[shown-1]) == "" {
		shown--
	}
	return shown
}

func rowText(row []Cell) string {
	var text strings.Builder
	for _, cell := range row {
		switch {
		case cell.Half:
		case cell.Text == "":
			text.WriteByte(' ')
		default:
			text.WriteString(cell.Text)
		}
	}
	return strings.TrimRight(text.String(), " ")
}
