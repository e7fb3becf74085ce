package tests

import (
	"bytes"
	"fmt"
	"slices"
	"strings"

	"loop.example/s01474/impl"
)

// call is one call of chapter 7 and what it is given beside a session and a history.
type call struct {
	name       string
	b          string
	cols, rows int
}

func (c call) String() string {
	return fmt.Sprintf("%s %q %d %d", c.name, c.b, c.cols, c.rows)
}

func printed(b string) call     { return call{name: "Print", b: b} }
func typed(b string) call       { return call{name: "Input", b: b} }
func waited() call              { return call{name: "Wait"} }
func sized(cols, rows int) call { return call{name: "Size", cols: cols, rows: rows} }
func stopped() call             { return call{name: "Stop"} }
func resumed() call             { return call{name: "Continue"} }

func (c call) takesKeys() bool {
	return c.name == "Input" || c.name == "Wait"
}

// made makes the call. One that takes no history leaves it as it is.
func (c call) made(s impl.Session, h impl.History) (impl.Session, impl.History, []byte, int) {
	var out []byte
	var code int
	switch c.name {
	case "Print":
		s, out, code = impl.Print(s, []byte(c.b))
	case "Input":
		return impl.Input(s, h, []byte(c.b))
	case "Wait":
		return impl.Wait(s, h)
	case "Size":
		s, out, code = impl.Size(s, c.cols, c.rows)
	case "Stop":
		s, out, code = impl.Stop(s)
	case "Continue":
		s, out, code = impl.Continue(s)
	default:
		panic("no call " + c.name)
	}
	return s, h, out, code
}

func sameSession(a, b impl.Session) bool {
	return a.Prompt == b.Prompt && a.Cols == b.Cols && a.Rows == b.Rows && sameLine(a.Line, b.Line) && bytes.Equal(a.Keys.Hold, b.Keys.Hold) && a.Keys.Paste == b.Keys.Paste &&
		a.Nav == b.Nav && slices.Equal(a.Past, b.Past) && a.At == b.At && a.Draft == b.Draft && a.Stopped == b.Stopped && slices.Equal(a.Queue, b.Queue) && slices.Equal(a.Log, b.Log) && slices.Equal(a.Done, b.Done)
}

func cloneSession(s impl.Session) impl.Session {
	s.Line = cloneLine(s.Line)
	s.Keys.Hold = slices.Clone(s.Keys.Hold)
	for _, list := range []*[]string{&s.Past, &s.Queue, &s.Log, &s.Done} {
		*list = slices.Clone(*list)
	}
	return s
}

func plainSessionOk(s impl.Session) bool {
	ok := plainSettled(s.Prompt) && runesIn(s.Prompt) <= 40
	ok = ok && s.Cols >= 2 && s.Cols <= 200 && s.Rows >= 1 && s.Rows <= 100
	ok = ok && plainLineOk(s.Line) && len(s.Keys.Hold) <= 2000
	ok = ok && len(s.Past) <= 100 && s.At >= 0 && s.At <= len(s.Past)
	for _, text := range append([]string{s.Draft}, s.Past...) {
		ok = ok && plainSettled(text) && runesIn(text) <= 300
	}
	ok = ok && (s.Nav || len(s.Past) == 0 && s.At == 0 && s.Draft == "")
	ok = ok && len(s.Queue) <= 20 && (s.Stopped || len(s.Queue) == 0)
	for _, text := range s.Queue {
		ok = ok && plainSettled(text)
	}
	for _, text := range s.Log {
		ok = ok && bare(text) == text
	}
	return ok
}

// bare is a text without the spaces at its end.
func bare(text string) string {
	for len(text) > 0 && text[len(text)-1] == ' ' {
		text = text[:len(text)-1]
	}
	return text
}

func plainBlock(s impl.Session) impl.Block {
	return plainLayout(s.Prompt, s.Line, s.Cols, s.Rows)
}

// plainCut is the lines of what is printed.
func plainCut(b string) []string {
	var lines []string
	line := ""
	for i := range len(b) {
		if b[i] != 10 {
			line += b[i : i+1]
			continue
		}
		lines = append(lines, plainSettle(line))
		line = ""
	}
	if line != "" {
		lines = append(lines, plainSettle(line))
	}
	return lines
}

// plainRows is the rows of a settled line.
func plainRows(line string, cols int) []string {
	rows := []string{""}
	col := 0
	for _, piece := range piecesOf(line) {
		width := widthOfText(piece)
		if col+width > cols {
			rows = append(rows, "")
			col = 0
		}
		rows[len(rows)-1] += piece
		col += width
	}
	return rows
}

// plainPrinted writes lines and puts their rows behind Log.
func plainPrinted(s *impl.Session, lines []string) string {
	out := ""
	for _, line := range lines {
		for _, row := range plainRows(line, s.Cols) {
			out += row + "\r\n"
			s.Log = append(s.Log, bare(row))
		}
	}
	return out
}

func plainView(s impl.Session) ([]string, int, int) {
	if !plainSessionOk(s) {
		return nil, 0, 0
	}
	if s.Stopped {
		return append(slices.Clone(s.Log), ""), len(s.Log), 0
	}
	b := plainBlock(s)
	return append(slices.Clone(s.Log), shownOf(b)...), len(s.Log) + b.Row, b.Col
}

// plainCode is the list of codes of all calls, the first that applies.
func plainCode(s impl.Session, h impl.History, c call) int {
	if !plainSessionOk(s) || c.takesKeys() && !plainHistoryOk(h) {
		return 1
	}
	switch c.name {
	case "Print":
		if len(c.b) > 5000 {
			return 2
		}
		if s.Stopped && len(s.Queue)+len(plainCut(c.b)) > 20 {
			return 3
		}
	case "Input":
		if len(c.b) > 2000 || len(s.Keys.Hold)+len(c.b) > 2000 {
			return 2
		}
	case "Size":
		if c.cols < 2 || c.cols > 200 || c.rows < 1 || c.rows > 100 {
			return 2
		}
	case "Continue":
		if !s.Stopped {
			return 3
		}
	}
	if s.Stopped && (c.takesKeys() || c.name == "Stop") {
		return 3
	}
	return 0
}

// plainCall is chapter 7 word by word.
func plainCall(s impl.Session, h impl.History, c call) (impl.Session, impl.History, string, int) {
	if code := plainCode(s, h, c); code != 0 {
		return s, h, "", code
	}
	s = cloneSession(s)
	out := ""
	switch c.name {
	case "Print":
		lines := plainCut(c.b)
		if s.Stopped {
			s.Queue = append(s.Queue, lines...)
		} else if len(lines) > 0 {
			out = plainErase(plainBlock(s)) + plainPrinted(&s, lines) + plainPaint(plainBlock(s))
		}
	case "Input":
		reader, read := plainKeys(s.Keys, []byte(c.b))
		s.Keys = reader
		s, h, out = plainPressed(s, h, read)
	case "Wait":
		reader, read := plainTick(s.Keys)
		s.Keys = reader
		s, h, out = plainPressed(s, h, read)
	case "Size":
		s.Log, _, _ = plainView(s)
		s.Cols, s.Rows = c.cols, c.rows
		if !s.Stopped {
			out = plainPaint(plainBlock(s))
		}
	case "Stop":
		out = plainErase(plainBlock(s))
		s.Stopped = true
	case "Continue":
		out = plainPrinted(&s, s.Queue) + plainPaint(plainBlock(s))
		s.Stopped, s.Queue = false, nil
	}
	return s, h, out, 0
}

func plainPressed(s impl.Session, h impl.History, read []impl.Key) (impl.Session, impl.History, string) {
	var all strings.Builder
	for _, k := range read {
		out := ""
		s, h, out = plainPress(s, h, k)
		all.WriteString(out)
	}
	return s, h, all.String()
}

// plainSet is SetText, which can't fail here.
func plainSet(l impl.Line, text string) impl.Line {
	l, _ = plainChanged(l, []string{text}, nil)
	return l
}

func plainPress(s impl.Session, h impl.History, k impl.Key) (impl.Session, impl.History, string) {
	before := plainBlock(s)
	text := s.Line.Left + s.Line.Right
	line, did := plainEdit(s.Line, k)
	switch did {
	case impl.DidNothing, impl.DidChange:
		s.Line = line
	case impl.DidBell, impl.DidEnd:
		return s, h, "\x07"
	case impl.DidEnter:
		return plainEnter(s, h, before, text)
	case impl.DidCancel:
		s = plainOffTheWay(s)
		s.Line = impl.Line{Kill: line.Kill}
	case impl.DidUp:
		on := s.Nav
		if !on {
			s.Nav, s.Past, s.At, s.Draft = true, slices.Clone(h.Items), len(h.Items), text
		}
		if s.At == 0 {
			if !on {
				s = plainOffTheWay(s)
			}
			return s, h, "\x07"
		}
		s.At--
		s.Line = plainSet(s.Line, s.Past[s.At])
	case impl.DidDown:
		if !s.Nav {
			return s, h, "\x07"
		}
		s.At++
		if s.At >= len(s.Past) {
			s.Line = plainSet(s.Line, s.Draft)
			s = plainOffTheWay(s)
		} else {
			s.Line = plainSet(s.Line, s.Past[s.At])
		}
	case impl.DidSearch:
		found, ok := plainLatest(h, text)
		if !ok {
			return s, h, "\x07"
		}
		s.Line = plainSet(s.Line, found)
	}
	return s, h, plainRedraw(before, plainBlock(s))
}

func plainEnter(s impl.Session, h impl.History, before impl.Block, text string) (impl.Session, impl.History, string) {
	s.Line.Left, s.Line.Right = text, ""
	last := plainBlock(s)
	for _, row := range last.Rows {
		s.Log = append(s.Log, bare(row))
	}
	s.Done = append(s.Done, text)
	h, _ = plainAdd(h, text)
	s = plainOffTheWay(s)
	s.Line = impl.Line{Kill: s.Line.Kill}
	return s, h, plainRedraw(before, last) + "\r\n" + plainPaint(plainBlock(s))
}

func plainOffTheWay(s impl.Session) impl.Session {
	s.Nav, s.Past, s.At, s.Draft = false, nil, 0, ""
	return s
}
