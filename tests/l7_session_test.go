package tests

import (
	"math"
	"math/rand/v2"
	"slices"
	"strings"
	"testing"

	"loop.example/s01474/impl"
)

func TestConstantsOfSessions(t *testing.T) {
	got := []int{impl.MaxPrompt, impl.MaxPrint, impl.MaxInput, impl.MaxQueue}
	if want := []int{40, 5000, 2000, 20}; !slices.Equal(got, want) {
		t.Errorf("%v, not %v", got, want)
	}
}

// with changes a copy of a session.
func with(s impl.Session, change func(s *impl.Session)) impl.Session {
	out := cloneSession(s)
	change(&out)
	return out
}

func freshSession() impl.Session {
	return impl.Session{Prompt: "> ", Cols: 10, Rows: 4}
}

// busySession has something in all that it may have while not Stopped.
func busySession() impl.Session {
	s := freshSession()
	s.Line = impl.Line{Left: "ab", Right: "cd ", Kill: "killed", Undo: manySnaps(3)}
	s.Keys = impl.KeyReader{Hold: []byte("\x1b[")}
	s.Nav, s.Past, s.At, s.Draft = true, []string{"one", "", "two "}, 1, "draft "
	s.Log, s.Done = []string{"above", "", "> x"}, []string{"x"}
	return s
}

func stoppedSession() impl.Session {
	s := busySession()
	s.Stopped, s.Queue = true, []string{"first", "", "ends with spaces  "}
	return s
}

// badTexts are not settled.
var badTexts = []string{"\x01", "a\t", "\n", "\x7f", "\u0085", "\u0301", "\u200bx", "\xff", "a\xe4\xb8", "\xed\xa0\x80"}

// brokenSessions has one for each way in which a session can't be valid.
func brokenSessions() []impl.Session {
	var out []impl.Session
	for _, s := range []impl.Session{freshSession(), busySession(), stoppedSession()} {
		add := func(change func(s *impl.Session)) { out = append(out, with(s, change)) }
		for _, cols := range []int{math.MinInt, -1, 0, 1, 201, math.MaxInt} {
			add(func(s *impl.Session) { s.Cols = cols })
		}
		for _, rows := range []int{math.MinInt, -1, 0, 101, math.MaxInt} {
			add(func(s *impl.Session) { s.Rows = rows })
		}
		for _, prompt := range append([]string{times("p", 41), times("\u4e16", 41), times("a\u0301", 20) + "b", times("p", 1000)}, badTexts...) {
			add(func(s *impl.Session) { s.Prompt = prompt })
		}
		for _, l := range brokenLines() {
			add(func(s *impl.Session) { s.Line = l })
		}
		for _, n := range []int{2001, 5000} {
			add(func(s *impl.Session) { s.Keys.Hold = []byte(times("x", n)) })
			add(func(s *impl.Session) { s.Keys = impl.KeyReader{Hold: []byte(times("x", n)), Paste: true} })
		}
		for _, log := range [][]string{{" "}, {"a "}, {"a", "b ", "c"}, {"a  ", "b"}, {"", "", "    "}, {"\u4e16 "}} {
			add(func(s *impl.Session) { s.Log = log })
		}
	}
	return slices.Concat(out, brokenWays(), brokenQueues())
}

func brokenWays() []impl.Session {
	var out []impl.Session
	for _, s := range []impl.Session{busySession(), stoppedSession()} {
		add := func(change func(s *impl.Session)) { out = append(out, with(s, change)) }
		for _, at := range []int{math.MinInt, -1, 4, 5, 100, math.MaxInt} {
			add(func(s *impl.Session) { s.At = at })
		}
		for _, n := range []int{101, 102, 1000} {
			add(func(s *impl.Session) { s.Past = manyItems(n) })
		}
		for _, bad := range append([]string{times("x", 301), times("\u4e16", 301), times("a\u0301", 150) + "b"}, badTexts...) {
			add(func(s *impl.Session) { s.Past[0] = bad })
			add(func(s *impl.Session) { s.Past[1] = bad })
			add(func(s *impl.Session) { s.Past[2] = bad })
			add(func(s *impl.Session) { s.Draft = bad })
		}
		add(func(s *impl.Session) { s.Nav = false })
		add(func(s *impl.Session) { s.Nav, s.Past, s.At = false, nil, 0 })
		add(func(s *impl.Session) { s.Nav, s.Draft, s.At = false, "", 0 })
		add(func(s *impl.Session) { s.Nav, s.Past, s.Draft = false, nil, "" })
		add(func(s *impl.Session) { s.Nav, s.Past, s.Draft, s.At = false, nil, "", -1 })
		add(func(s *impl.Session) { s.Past = nil })
		add(func(s *impl.Session) { s.Nav, s.Past, s.Draft, s.At = false, []string{""}, "", 0 })
	}
	return out
}

func brokenQueues() []impl.Session {
	var out []impl.Session
	for _, queue := range [][]string{{""}, {"a"}, manyItems(20), manyItems(21)} {
		out = append(out, with(busySession(), func(s *impl.Session) { s.Queue = queue }), with(freshSession(), func(s *impl.Session) { s.Queue = queue }))
	}
	for _, n := range []int{21, 22, 500} {
		out = append(out, with(stoppedSession(), func(s *impl.Session) { s.Queue = manyItems(n) }))
	}
	for _, bad := range badTexts {
		out = append(out, with(stoppedSession(), func(s *impl.Session) { s.Queue[0] = bad }), with(stoppedSession(), func(s *impl.Session) { s.Queue[2] = bad }), with(stoppedSession(), func(s *impl.Session) { s.Queue = append(manyItems(19), bad) }))
	}
	return out
}

// soundSessions are at the edges of what is valid.
func soundSessions() []impl.Session {
	var out []impl.Session
	for _, s := range []impl.Session{freshSession(), busySession(), stoppedSession()} {
		add := func(change func(s *impl.Session)) { out = append(out, with(s, change)) }
		add(func(s *impl.Session) {})
		for _, size := range [][2]int{{2, 1}, {2, 100}, {3, 2}, {200, 1}, {200, 100}} {
			add(func(s *impl.Session) { s.Cols, s.Rows = size[0], size[1] })
		}
		for _, prompt := range []string{"", " ", times("p", 40), times("\u4e16", 40), times("a\u0301", 20), "\u25cc\u0301", "\ufffd \u00a0"} {
			add(func(s *impl.Session) { s.Prompt = prompt })
		}
		for _, l := range soundLines() {
			add(func(s *impl.Session) { s.Line = l })
		}
		for _, hold := range []string{"", "\x1b", "abc", "\xe4\xb8", "\r\r", times("x", 1999), times("x", 2000), times("\xff", 2000), "\x1b[" + times("3", 1998)} {
			add(func(s *impl.Session) { s.Keys = impl.KeyReader{Hold: []byte(hold)} })
			add(func(s *impl.Session) { s.Keys = impl.KeyReader{Hold: []byte(hold), Paste: true} })
		}
		// What is in Log and in Done need not be settled.
		for _, log := range [][]string{{""}, {"", ""}, {" a"}, {"\x01", "\xff", "\u0301"}, {"a \u0301"}, {"a\t", "b\u00a0"}, manyItems(1000)} {
			add(func(s *impl.Session) { s.Log = log })
			add(func(s *impl.Session) { s.Done = log })
		}
		add(func(s *impl.Session) { s.Done = []string{" ", "a ", times("x", 1000)} })
		for _, past := range [][]string{nil, {""}, {"", ""}, {"a", "a"}, manyItems(99), manyItems(100), {times("x", 300), times("\u4e16", 300), "  "}} {
			for _, at := range []int{0, len(past) / 2, len(past)} {
				for _, draft := range []string{"", " ", times("x", 300), times("a\u0301", 150)} {
					add(func(s *impl.Session) { s.Nav, s.Past, s.At, s.Draft = true, past, at, draft })
				}
			}
		}
	}
	for _, queue := range [][]string{nil, {""}, {" "}, manyItems(19), manyItems(20), {times("x", 10000)}, {times("\u4e16 ", 301), "a"}} {
		out = append(out, with(stoppedSession(), func(s *impl.Session) { s.Queue = queue }))
	}
	return out
}

func TestSessionOk(t *testing.T) {
	for i, s := range brokenSessions() {
		if plainSessionOk(s) || impl.SessionOk(s) {
			t.Errorf("broken session %d is valid: %+v", i, s)
		}
	}
	for i, s := range soundSessions() {
		if !plainSessionOk(s) || !impl.SessionOk(s) {
			t.Errorf("sound session %d is not valid: %+v", i, s)
		}
	}
	if impl.SessionOk(impl.Session{}) {
		t.Errorf("the session with nothing is valid")
	}
}

func TestNewSessionByHand(t *testing.T) {
	for _, c := range []struct {
		prompt     string
		cols, rows int
		want       string
		ok         bool
	}{
		{"> ", 10, 4, "> \x1b[3G", true}, {"", 10, 4, "\x1b[1G", true}, {"> ", 2, 4, "> \r\n\x1b[1G", true}, {"> ", 2, 1, "\x1b[1G", true}, {"abc", 2, 1, "c\x1b[2G", true}, {"abcde", 2, 2, "cd\r\ne\x1b[2G", true},
		{"\u4e16>", 2, 100, "\u4e16\r\n>\x1b[2G", true}, {"\u25cc\u0301", 200, 100, "\u25cc\u0301\x1b[2G", true}, {times("p", 40), 200, 100, times("p", 40) + "\x1b[41G", true}, {times("p", 40), 40, 2, times("p", 40) + "\r\n\x1b[1G", true}, {times("\u4e16", 40), 200, 1, times("\u4e16", 40) + "\x1b[81G", true},
		{times("p", 41), 200, 100, "", false}, {times("\u4e16", 41), 200, 100, "", false}, {"\t", 10, 4, "", false}, {"a\n", 10, 4, "", false}, {"\x1b", 10, 4, "", false}, {"\u0301", 10, 4, "", false}, {"\xff", 10, 4, "", false}, {"\u0080", 10, 4, "", false},
		{"> ", 1, 4, "", false}, {"> ", 0, 4, "", false}, {"> ", -1, 4, "", false}, {"> ", 201, 4, "", false}, {"> ", 10, 0, "", false}, {"> ", 10, -1, "", false}, {"> ", 10, 101, "", false}, {"> ", math.MaxInt, math.MinInt, "", false}, {"\x01", 1, 0, "", false},
	} {
		s, b, ok := impl.NewSession(c.prompt, c.cols, c.rows)
		want := impl.Session{}
		if c.ok {
			want = impl.Session{Prompt: c.prompt, Cols: c.cols, Rows: c.rows}
		}
		if string(b) != c.want || ok != c.ok || !sameSession(s, want) || impl.SessionOk(s) != c.ok {
			t.Errorf("%q in %d columns, %d rows: %q, %v, %+v", c.prompt, c.cols, c.rows, b, ok, s)
		}
	}
}

// checkCall asks for what the model gives, and for promises 9 and 10.
func checkCall(t *testing.T, s impl.Session, h impl.History, c call) (impl.Session, impl.History, string, int) {
	t.Helper()
	wantS, wantH, wantOut, wantCode := plainCall(s, h, c)
	gotS, gotH, out, code := c.made(s, h)
	if code != wantCode || string(out) != wantOut {
		t.Fatalf("%v of %+v: %q, %d, not %q, %d", c, s, out, code, wantOut, wantCode)
	}
	if !sameSession(gotS, wantS) || !sameHistory(gotH, wantH) {
		t.Fatalf("%v of %+v, %+v: %+v, %+v, not %+v, %+v", c, s, h, gotS, gotH, wantS, wantH)
	}
	if code != 0 && (len(out) > 0 || !sameSession(gotS, s) || !sameHistory(gotH, h)) {
		t.Fatalf("%v of %+v, %+v has code %d and changes them: %+v, %+v", c, s, h, code, gotS, gotH)
	}
	if code == 0 && (!impl.SessionOk(gotS) || c.takesKeys() && !impl.HistoryOk(gotH)) {
		t.Fatalf("%v of %+v: not valid any more: %+v", c, s, gotS)
	}
	if c.name == "Print" {
		checkPrinted(t, s, gotS, c, code)
	}
	checkView(t, gotS)
	return gotS, gotH, string(out), code
}

// checkPrinted asks for promise 10.
func checkPrinted(t *testing.T, before, after impl.Session, c call, code int) {
	t.Helper()
	same := with(after, func(s *impl.Session) { s.Queue, s.Log = before.Queue, before.Log })
	if !sameSession(same, before) {
		t.Fatalf("%v of %+v changes more than Queue and Log: %+v", c, before, after)
	}
	if code != 0 || before.Stopped {
		return
	}
	var rows []string
	for _, line := range plainCut(c.b) {
		for _, row := range impl.Wrap(impl.Clusters(impl.Clean([]byte(line))), before.Cols) {
			rows = append(rows, strings.TrimRight(impl.TextOf(row), " "))
		}
	}
	if !slices.Equal(after.Log, append(slices.Clone(before.Log), rows...)) {
		t.Fatalf("%v of %+v: Log is %q", c, before, after.Log)
	}
}

func checkView(t *testing.T, s impl.Session) {
	t.Helper()
	rows, row, col := impl.View(s)
	wantRows, wantRow, wantCol := plainView(s)
	if !slices.Equal(rows, wantRows) || row != wantRow || col != wantCol {
		t.Fatalf("View of %+v: %q, %d, %d, not %q, %d, %d", s, rows, row, col, wantRows, wantRow, wantCol)
	}
}

func TestViewByHand(t *testing.T) {
	for _, c := range []struct {
		name     string
		s        impl.Session
		rows     string
		row, col int
	}{
		{"fresh", freshSession(), ">", 0, 2},
		{"no prompt", impl.Session{Cols: 2, Rows: 1}, "", 0, 0},
		{"busy", busySession(), "above,,> x,> abcd", 3, 4},
		{"stopped", stoppedSession(), "above,,> x,", 3, 0},
		{"stopped, no rows", with(freshSession(), func(s *impl.Session) { s.Stopped = true }), "", 0, 0},
		{"a full row", with(freshSession(), func(s *impl.Session) { s.Line = lineAt("12345678|") }), "> 12345678,", 1, 0},
		{"a full row, the cursor at its end", with(freshSession(), func(s *impl.Session) { s.Line = lineAt("1234567|8") }), "> 12345678", 0, 9},
		{"spaces behind", with(freshSession(), func(s *impl.Session) { s.Line = lineAt("a|" + times(" ", 20)) }), "> a", 0, 3},
		{"spaces in front", with(freshSession(), func(s *impl.Session) { s.Line = lineAt(times(" ", 20) + "|a") }), ">,,  a", 2, 2},
		{"spaces all round", with(freshSession(), func(s *impl.Session) { s.Line = lineAt(times(" ", 10) + "|" + times(" ", 20)) }), ">,", 1, 2},
		{"spaces, then a text", with(freshSession(), func(s *impl.Session) { s.Line = lineAt("|" + times(" ", 20) + "a") }), ">,,  a", 0, 2},
		{"higher than the screen", with(freshSession(), func(s *impl.Session) { s.Line, s.Rows = lineAt(times("1234567890", 3)+"|"), 2 }), "9012345678,90", 1, 2},
		{"higher, cut below", with(freshSession(), func(s *impl.Session) { s.Line, s.Rows = lineAt("|"+times("1234567890", 3)), 2 }), "> 12345678,9012345678", 0, 2},
	} {
		rows, row, col := impl.View(c.s)
		if strings.Join(rows, ",") != c.rows || len(rows) != len(rowsOf(c.rows)) || row != c.row || col != c.col {
			t.Errorf("%s: %q, %d, %d", c.name, rows, row, col)
		}
		checkView(t, c.s)
	}
	for i, s := range brokenSessions() {
		if rows, row, col := impl.View(s); len(rows) > 0 || row != 0 || col != 0 {
			t.Errorf("broken session %d: %q, %d, %d", i, rows, row, col)
		}
	}
	for _, s := range soundSessions() {
		checkView(t, s)
	}
}

// TestBytesOfKeysByHand has a session of 10 columns and 4 rows, the prompt "> "
// and a history of two items.
func TestBytesOfKeysByHand(t *testing.T) {
	const back = "\r\x1b[J"
	for _, c := range []struct {
		name, first, keys, want string
	}{
		{"no byte", "", "", ""},
		{"runes", "", "ab", back + "> a\x1b[4G" + back + "> ab\x1b[5G"},
		{"a paste", "", "\x1b[200~a\tb\x1b[201~", back + "> a b\x1b[6G"},
		{"an empty paste", "", "\x1b[200~\x1b[201~", ""},
		{"a piece of two columns", "", "\u4e16", back + "> \u4e16\x1b[5G"},
		{"a mark", "a", "\u0301", back + "> a\u0301\x1b[4G"},
		{"a mark alone", "", "\u0301", back + "> \u25cc\u0301\x1b[4G"},
		{"the row becomes full", "1234567", "8", back + "> 12345678\r\n\x1b[1G"},
		{"and is full no more", "12345678", "\x7f", "\r\x1b[1A\x1b[J> 1234567\x1b[10G"},
		{"a second row", "12345678", "9", "\r\x1b[1A\x1b[J> 12345678\r\n9\x1b[2G"},
		{"left", "ab", "\x02", "\x1b[4G"},
		{"left, left, left", "ab", "\x02\x02\x02", "\x1b[4G\x1b[3G\x07"},
		{"right at the end", "ab", "\x06", "\x07"},
		{"home, home", "ab", "\x01\x01", "\x1b[3G"},
		{"end, end", "ab\x01", "\x05\x05", "\x1b[5G"},
		{"up a row", "1234567890", "\x01", "\x1b[1A"},
		{"up a row, another column", "1234567890a", "\x01", "\x1b[1A\x1b[3G"},
		{"down a row", "1234567890a\x01", "\x05", "\x1b[1B\x1b[4G"},
		{"from behind a full row", "12345678", "\x02", "\r\x1b[1A\x1b[J> 12345678\x1b[10G"},
		{"words", "one two", "\x1bb\x1bb\x1bb\x1bf", "\x1b[7G\x1b[3G\x07\x1b[6G"},
		{"back", "ab", "\x7f", back + "> a\x1b[4G"},
		{"back in an empty line", "", "\x7f\x08", "\x07\x07"},
		{"delete", "ab\x02", "\x04", back + "> a\x1b[4G"},
		{"delete at the end", "ab", "\x04", "\x07"},
		{"delete in an empty line", "", "\x04", "\x07"},
		{"kill-end and yank", "ab\x01", "\x0b\x19", back + "> \x1b[3G" + back + "> ab\x1b[5G"},
		{"kills of nothing", "", "\x0b\x15\x17\x19", "\x07\x07\x07\x07"},
		{"swap", "ab", "\x14", back + "> ba\x1b[5G"},
		{"swap of the same", "aa", "\x14", ""},
		{"swap of one", "a", "\x14", "\x07"},
		{"undo, undo", "a", "\x1f\x1f", back + "> \x1b[3G\x07"},
		{"escape and others", "a", "\x1b\x1b\x1bx\x1b[9~\x00", ""},
		{"cancel", "ab", "\x03", back + "> \x1b[3G"},
		{"cancel in an empty line", "", "\x03", ""},
		{"cancel in the second row", "1234567890", "\x03", "\r\x1b[1A\x1b[J> \x1b[3G"},
		{"up", "", "\x10", back + "> two\x1b[6G"},
		{"up, up, up", "", "\x10\x10\x10", back + "> two\x1b[6G" + back + "> one\x1b[6G\x07"},
		{"up, down", "x", "\x10\x0e", back + "> two\x1b[6G" + back + "> x\x1b[4G"},
		{"up to the very text", "two", "\x10", ""},
		{"down", "", "\x0e", "\x07"},
		{"search", "o", "\x12", back + "> two\x1b[6G"},
		{"search and search", "o", "\x12\x12", back + "> two\x1b[6G\x07"},
		{"search for the first", "n", "\x12", back + "> one\x1b[6G"},
		{"search for nothing", "", "\x12", back + "> two\x1b[6G"},
		{"search in vain", "xyz", "\x12", "\x07"},
		{"enter", "ab", "\r", "\r\n> \x1b[3G"},
		{"enter with nothing", "", "\r", "\r\n> \x1b[3G"},
		{"enter twice", "", "\r\n", "\r\n> \x1b[3G\r\n> \x1b[3G"},
		{"enter at the front", "ab\x01", "\r", "\x1b[5G\r\n> \x1b[3G"},
		{"enter in the middle", "ab\x02", "\r", "\x1b[5G\r\n> \x1b[3G"},
		{"enter in the first row of two", "1234567890a\x01", "\r", "\x1b[1B\x1b[4G\r\n> \x1b[3G"},
		{"enter at the end of a full row", "12345678", "\r", "\r\n> \x1b[3G"},
		{"enter in a full row", "12345678\x02", "\r", back + "> 12345678\r\n\x1b[1G\r\n> \x1b[3G"},
		{"enter at the front of a full row", "12345678\x01", "\r", back + "> 12345678\r\n\x1b[1G\r\n> \x1b[3G"},
		{"enter behind spaces", "a  ", "\r", "\r\n> \x1b[3G"},
		{"enter at the front of more rows than the screen has", times("1234567890", 4) + "\x01", "\r", back + "9012345678\r\n9012345678\r\n9012345678\r\n90\x1b[3G\r\n> \x1b[3G"},
		{"keys behind an enter", "a", "\rb\r", "\r\n> \x1b[3G" + back + "> b\x1b[4G\r\n> \x1b[3G"},
		{"enter and undo", "a", "\r\x1f", "\r\n> \x1b[3G\x07"},
		{"kill, enter and yank", "a\x15b", "\r\x19", "\r\n> \x1b[3G" + back + "> a\x1b[4G"},
		{"enter and up", "a", "\r\x10\x10\x10\x10", "\r\n> \x1b[3G" + back + "> a\x1b[4G" + back + "> two\x1b[6G" + back + "> one\x1b[6G\x07"},
		{"a line that is full", times("x", 300), "y\x04", "\x07\x07"},
	} {
		h := impl.History{Cap: 3, Items: []string{"one", "two"}}
		s, h, _, code := checkCall(t, freshSession(), h, typed(c.first))
		if code != 0 {
			t.Fatalf("%s: code %d", c.name, code)
		}
		if _, _, out, code := checkCall(t, s, h, typed(c.keys)); out != c.want || code != 0 {
			t.Errorf("%s: %q, %d, not %q", c.name, out, code, c.want)
		}
	}
}

func TestEnteredByHand(t *testing.T) {
	for _, c := range []struct {
		name, keys, done, log, items string
	}{
		{"one", "ab\r", "ab", "> ab", "old,ab"},
		{"two", "ab\rcd\r", "ab,cd", "> ab,> cd", "old,ab,cd"},
		{"nothing", "\r", "", ">", "old"},
		{"the same twice", "ab\rab\r", "ab,ab", "> ab,> ab", "old,ab"},
		{"the last item", "old\r", "old", "> old", "old"},
		{"more than the history takes", "a\rb\rc\r", "a,b,c", "> a,> b,> c", "a,b,c"},
		{"a space at the end", "a \r", "a ", "> a", "old,a "},
		{"a space alone", " \r", " ", ">", "old, "},
		{"the cursor at the front", "abc\x01\r", "abc", "> abc", "old,abc"},
		{"the cursor in the middle", "abc\x02\r", "abc", "> abc", "old,abc"},
		{"a full row", "12345678\r", "12345678", "> 12345678,", "old,12345678"},
		{"a full row, the cursor at the front", "12345678\x01\r", "12345678", "> 12345678,", "old,12345678"},
		{"two rows", "123456789\r", "123456789", "> 12345678,9", "old,123456789"},
		{"rows of spaces", times(" ", 18) + "\r", times(" ", 18), ">,,", "old," + times(" ", 18)},
		{"more rows than the screen has", times("1234567890", 4) + "\r", times("1234567890", 4), "9012345678,9012345678,9012345678,90", "old," + times("1234567890", 4)},
		{"more rows, the cursor at the front", times("1234567890", 4) + "\x01\r", times("1234567890", 4), "9012345678,9012345678,9012345678,90", "old," + times("1234567890", 4)},
		{"a piece that does not fit", "1234567\u4e16\r", "1234567\u4e16", "> 1234567,\u4e16", "old,1234567\u4e16"},
		{"from the history", "\x10\r", "old", "> old", "old"},
	} {
		s, h, _, code := checkCall(t, freshSession(), impl.History{Cap: 3, Items: []string{"old"}}, typed(c.keys))
		if code != 0 || strings.Join(s.Done, ",") != c.done || strings.Join(s.Log, ",") != c.log || len(s.Log) != len(rowsOf(c.log)) || strings.Join(h.Items, ",") != c.items {
			t.Errorf("%s: %d, %q, %q, %q", c.name, code, s.Done, s.Log, h.Items)
		}
		if !sameLine(s.Line, impl.Line{}) || s.Nav {
			t.Errorf("%s leaves %+v, %v", c.name, s.Line, s.Nav)
		}
	}
	// Kill stays, Undo does not.
	s, _, _, _ := checkCall(t, freshSession(), impl.History{Cap: 3}, typed("ab\x15cd\r"))
	if !sameLine(s.Line, impl.Line{Kill: "ab"}) {
		t.Errorf("%+v", s.Line)
	}
}

func TestPrintByHand(t *testing.T) {
	const up, down = "\r\x1b[J", "> a\x1b[4G"
	for _, c := range []struct {
		name, b, want, log string
		rows               int
	}{
		{"no byte", "", "", "", 0},
		{"one LF", "\n", up + "\r\n" + down, "", 1},
		{"several LFs", "\n\n\n", up + "\r\n\r\n\r\n" + down, ",,", 3},
		{"a line", "one", up + "one\r\n" + down, "one", 1},
		{"a line and LF", "one\n", up + "one\r\n" + down, "one", 1},
		{"a line and two LFs", "one\n\n", up + "one\r\n\r\n" + down, "one,", 2},
		{"two lines", "one\ntwo", up + "one\r\ntwo\r\n" + down, "one,two", 2},
		{"LF first", "\none", up + "\r\none\r\n" + down, ",one", 2},
		{"CR LF", "one\r\ntwo\r", up + "one\ufffd\r\ntwo\ufffd\r\n" + down, "one\ufffd,two\ufffd", 2},
		{"controls", "a\x07\x1b[Jb\x00\x7f\t\u0085c", up + "a\ufffd\ufffd[Jb\ufffd\ufffd\r\n \ufffdc\r\n" + down, "a\ufffd\ufffd[Jb\ufffd\ufffd, \ufffdc", 2},
		{"no runes", "a\xff\xe4\xb8", up + "a\ufffd\ufffd\ufffd\r\n" + down, "a\ufffd\ufffd\ufffd", 1},
		{"a rune cut by LF", "\xe4\xb8\n\x96", up + "\ufffd\ufffd\r\n\ufffd\r\n" + down, "\ufffd\ufffd,\ufffd", 2},
		{"a mark alone", "\u0301\n\u0301", up + "\u25cc\u0301\r\n\u25cc\u0301\r\n" + down, "\u25cc\u0301,\u25cc\u0301", 2},
		{"a full row", "12345678", up + "12345678\r\n" + down, "12345678", 1},
		{"one more", "123456789", up + "12345678\r\n9\r\n" + down, "12345678,9", 2},
		{"two full rows", "1234567812345678\n", up + "12345678\r\n12345678\r\n" + down, "12345678,12345678", 2},
		{"a piece of two columns at the end", "123456\u4e16", up + "123456\u4e16\r\n" + down, "123456\u4e16", 1},
		{"a piece that does not fit", "1234567\u4e16", up + "1234567\r\n\u4e16\r\n" + down, "1234567,\u4e16", 2},
		{"a mark behind a full row", "12345678\u0301", up + "12345678\u0301\r\n" + down, "12345678\u0301", 1},
		{"spaces at the end", "a  \n b ", up + "a  \r\n b \r\n" + down, "a, b", 2},
		{"nothing but spaces", "   ", up + "   \r\n" + down, "", 1},
		{"rows of spaces", "          ", up + "        \r\n  \r\n" + down, ",", 2},
		{"a row that ends with spaces", "1234    5", up + "1234    \r\n5\r\n" + down, "1234,5", 2},
		{"a space that bears a mark", "a \u0301", up + "a \u0301\r\n" + down, "a \u0301", 1},
		{"a no-break space", "a\u00a0", up + "a\u00a0\r\n" + down, "a\u00a0", 1},
	} {
		s := impl.Session{Prompt: "> ", Cols: 8, Rows: 3, Line: impl.Line{Left: "a"}}
		got, _, out, code := checkCall(t, s, impl.History{}, printed(c.b))
		if code != 0 || out != c.want || strings.Join(got.Log, ",") != c.log || len(got.Log) != c.rows {
			t.Errorf("%s: %d, %q, %q", c.name, code, out, got.Log)
		}
	}
	// A block of three rows, the cursor in the second.
	s := impl.Session{Prompt: "> ", Cols: 4, Rows: 3, Line: lineAt("abcd|efg"), Log: []string{"old"}}
	if got, _, out, code := checkCall(t, s, impl.History{}, printed("new\n")); code != 0 || out != "\r\x1b[1A\x1b[Jnew\r\n> ab\r\ncdef\r\ng\x1b[1A\x1b[3G" || strings.Join(got.Log, ",") != "old,new" {
		t.Errorf("three rows: %d, %q, %q", code, out, got.Log)
	}
}

func TestStopAndContinueByHand(t *testing.T) {
	s := impl.Session{Prompt: "> ", Cols: 4, Rows: 3, Line: lineAt("abcd|efg"), Log: []string{"old"}}
	h := impl.History{Cap: 3}
	for i, c := range []struct {
		call
		want       string
		code       int
		queue, log string
	}{
		{resumed(), "", 3, "", "old"},
		{stopped(), "\r\x1b[1A\x1b[J", 0, "", "old"},
		{stopped(), "", 3, "", "old"},
		{printed(""), "", 0, "", "old"},
		{printed("first"), "", 0, "first", "old"},
		{printed("\nlong line\u4e16 \n"), "", 0, "first,,long line\u4e16 ", "old"},
		{typed("x"), "", 3, "first,,long line\u4e16 ", "old"},
		{waited(), "", 3, "first,,long line\u4e16 ", "old"},
		{sized(5, 2), "", 0, "first,,long line\u4e16 ", "old,"},
		{sized(5, 0), "", 2, "first,,long line\u4e16 ", "old,"},
		{printed("\t"), "", 0, "first,,long line\u4e16 , ", "old,"},
		{printed(times("\n", 17)), "", 3, "first,,long line\u4e16 , ", "old,"},
		{resumed(), "first\r\n\r\nlong \r\nline\r\n\u4e16 \r\n \r\n> abc\r\ndefg\x1b[2G", 0, "", "old,,first,,long,line,\u4e16,"},
		{resumed(), "", 3, "", "old,,first,,long,line,\u4e16,"},
		{stopped(), "\r\x1b[1A\x1b[J", 0, "", "old,,first,,long,line,\u4e16,"},
		{resumed(), "> abc\r\ndefg\x1b[2G", 0, "", "old,,first,,long,line,\u4e16,"},
	} {
		var out string
		var code int
		s, h, out, code = checkCall(t, s, h, c.call)
		if out != c.want || code != c.code || strings.Join(s.Queue, ",") != c.queue || strings.Join(s.Log, ",") != c.log {
			t.Errorf("call %d, %v: %q, %d, %q, %q", i, c.call, out, code, s.Queue, s.Log)
		}
	}
}

func TestSizeByHand(t *testing.T) {
	s := with(freshSession(), func(s *impl.Session) {
		s.Line, s.Log = lineAt("123456789|  "), []string{"old"}
	})
	for _, c := range []struct {
		cols, rows int
		want       string
	}{
		{10, 4, "> 12345678\r\n9  \x1b[2G"}, {20, 4, "> 123456789  \x1b[12G"}, {4, 4, "> 12\r\n3456\r\n789 \r\n \x1b[1A\x1b[4G"}, {4, 2, "3456\r\n789 \x1b[4G"}, {11, 1, "  \x1b[1G"}, {12, 1, "> 123456789 \x1b[12G"}, {200, 100, "> 123456789  \x1b[12G"}, {2, 1, "9 \x1b[2G"},
	} {
		got, _, out, code := checkCall(t, s, impl.History{}, sized(c.cols, c.rows))
		if code != 0 || out != c.want || got.Cols != c.cols || got.Rows != c.rows || strings.Join(got.Log, ",") != "old,> 12345678,9" {
			t.Errorf("%d columns, %d rows: %d, %q, %q", c.cols, c.rows, code, out, got.Log)
		}
	}
	for _, size := range [][2]int{{1, 4}, {0, 4}, {-1, 4}, {201, 4}, {10, 0}, {10, -1}, {10, 101}, {math.MinInt, 4}, {math.MaxInt, 4}, {10, math.MinInt}, {10, math.MaxInt}} {
		for _, s := range []impl.Session{s, stoppedSession()} {
			if _, _, _, code := checkCall(t, s, impl.History{}, sized(size[0], size[1])); code != 2 {
				t.Errorf("%v: %d", size, code)
			}
		}
	}
}

// shortCalls has each call, with what would give it code 0 and what would not.
func shortCalls() []call {
	return []call{
		printed(""), printed("\n"), printed("one\ntwo\n"), printed(times("\n", 17)), printed(times("\n", 18)), printed(times("\n", 20)), printed(times("\n", 21)),
		typed(""), typed("x"), typed("A"), typed("\r\x10\x0e\x12"), typed("\x1b[201~\r"), typed("\x1b[200~" + times("x", 100)),
		waited(), sized(10, 4), sized(2, 1), sized(200, 100), sized(1, 1), sized(201, 4), sized(10, 0), sized(10, 101), stopped(), resumed(),
	}
}

// allCalls has those too that are given as much as they take, and more.
func allCalls() []call {
	return append(shortCalls(), printed(times("x", 5000)), printed(times("x", 5001)), printed(times("\n", 5000)), printed(times("\n", 5001)), typed(times("x", 1998)), typed(times("x", 1999)), typed(times("x", 2000)), typed(times("x", 2001)), typed(times("\x1b", 1998)))
}

func TestEveryCallOfEdgeSessions(t *testing.T) {
	h := impl.History{Cap: 3, Items: []string{"one", "two"}}
	for _, s := range soundSessions() {
		if len(s.Keys.Hold) > 100 {
			// Each byte would be a key, for each of the calls.
			s.Keys.Paste = true
		}
		for _, c := range shortCalls() {
			checkCall(t, s, h, c)
		}
	}
	for _, s := range []impl.Session{freshSession(), busySession(), stoppedSession()} {
		for _, c := range allCalls() {
			checkCall(t, s, h, c)
		}
	}
	for _, hold := range []string{times("x", 2000), times("\xff", 2000), times("\r", 2000), times("\x1b", 2000)} {
		s := with(freshSession(), func(s *impl.Session) { s.Keys.Hold = []byte(hold) })
		checkCall(t, s, h, typed(""))
		checkCall(t, s, h, waited())
	}
}

func TestCallsOfBrokenSessions(t *testing.T) {
	for i, s := range brokenSessions() {
		for _, c := range allCalls() {
			for _, h := range []impl.History{{Cap: 3, Items: []string{"one"}}, {}} {
				if _, _, _, code := checkCall(t, s, h, c); code != 1 {
					t.Fatalf("broken session %d, %v: %d", i, c, code)
				}
			}
		}
	}
}

func TestCallsWithBrokenHistories(t *testing.T) {
	for i, h := range brokenHistories() {
		for _, s := range []impl.Session{freshSession(), busySession(), stoppedSession()} {
			for _, c := range shortCalls() {
				if _, _, _, code := checkCall(t, s, h, c); c.takesKeys() && code != 1 {
					t.Fatalf("broken history %d, %v: %d", i, c, code)
				}
			}
		}
	}
	for _, h := range soundHistories() {
		for _, s := range []impl.Session{freshSession(), busySession()} {
			for _, c := range shortCalls() {
				checkCall(t, s, h, c)
			}
		}
	}
}

func TestCodesByHand(t *testing.T) {
	good, bad := impl.History{Cap: 1}, impl.History{}
	broken := with(stoppedSession(), func(s *impl.Session) { s.At = -1 })
	holding := func(n int) impl.Session {
		return with(freshSession(), func(s *impl.Session) { s.Keys = impl.KeyReader{Hold: []byte(times("x", n)), Paste: true} })
	}
	stoppedHolding := with(holding(1000), func(s *impl.Session) { s.Stopped = true })
	queued := func(n int) impl.Session {
		return with(stoppedSession(), func(s *impl.Session) { s.Queue = manyItems(n) })
	}
	for i, c := range []struct {
		s impl.Session
		h impl.History
		call
		code int
	}{
		{broken, good, printed(times("\n", 5001)), 1}, {broken, bad, typed(times("x", 2001)), 1}, {broken, good, typed(times("x", 2001)), 1}, {broken, good, waited(), 1}, {broken, good, sized(0, 0), 1}, {broken, good, stopped(), 1}, {with(broken, func(s *impl.Session) { s.Stopped, s.Queue = false, nil }), good, resumed(), 1},
		{stoppedSession(), bad, typed(times("x", 2001)), 1}, {stoppedSession(), bad, waited(), 1}, {freshSession(), bad, typed(""), 1}, {freshSession(), bad, waited(), 1}, {freshSession(), bad, printed("x"), 0}, {freshSession(), bad, sized(5, 5), 0}, {freshSession(), bad, stopped(), 0}, {stoppedSession(), bad, resumed(), 0},
		{stoppedSession(), good, printed(times("\n", 5001)), 2}, {stoppedSession(), good, printed(times("\n", 5000)), 3}, {freshSession(), good, printed(times("\n", 5001)), 2}, {freshSession(), good, printed(times("\n", 5000)), 0}, {freshSession(), good, printed(times("\u4e16", 1666) + "ab"), 0}, {freshSession(), good, printed(times("\u4e16", 1666) + "abc"), 2},
		{stoppedSession(), good, typed(times("x", 2001)), 2}, {stoppedSession(), good, typed(times("x", 1998)), 3}, {stoppedSession(), good, typed(times("x", 1999)), 2}, {stoppedSession(), good, typed(""), 3}, {stoppedSession(), good, waited(), 3},
		{freshSession(), good, typed(times("x", 2000)), 0}, {freshSession(), good, typed(times("x", 2001)), 2}, {holding(2000), good, typed(""), 0}, {holding(2000), good, typed("x"), 2}, {holding(1999), good, typed("x"), 0}, {holding(1999), good, typed("xy"), 2}, {holding(1), good, typed(times("x", 1999)), 0}, {holding(1), good, typed(times("x", 2000)), 2}, {holding(2000), good, waited(), 0},
		{stoppedHolding, good, typed(times("x", 1000)), 3}, {stoppedHolding, good, typed(times("x", 1001)), 2},
		{queued(0), good, printed(times("x\n", 20)), 0}, {queued(0), good, printed(times("x\n", 20) + "x"), 3}, {queued(0), good, printed(times("x\n", 19) + "x"), 0}, {queued(19), good, printed("x"), 0}, {queued(19), good, printed("\n"), 0}, {queued(19), good, printed("x\n\n"), 3}, {queued(20), good, printed(""), 0}, {queued(20), good, printed("\n"), 3}, {queued(20), good, printed("x"), 3}, {queued(20), good, resumed(), 0}, {queued(20), good, sized(7, 7), 0},
		{stoppedSession(), good, sized(1, 1), 2}, {freshSession(), good, sized(2, 0), 2}, {stoppedSession(), good, sized(2, 1), 0}, {stoppedSession(), good, stopped(), 3}, {freshSession(), good, resumed(), 3}, {freshSession(), good, stopped(), 0}, {stoppedSession(), good, resumed(), 0},
	} {
		if _, _, _, code := checkCall(t, c.s, c.h, c.call); code != c.code {
			t.Errorf("case %d: %d, not %d", i, code, c.code)
		}
	}
}

// console is a session with its history and a screen that gets its bytes.
type console struct {
	s impl.Session
	h impl.History
	v impl.Screen
}

func openConsole(t *testing.T, prompt string, cols, rows int) *console {
	t.Helper()
	s, b, ok := impl.NewSession(prompt, cols, rows)
	if !ok {
		t.Fatalf("no session: %q, %d, %d", prompt, cols, rows)
	}
	x := &console{s: s, h: impl.History{Cap: 3}, v: fed(t, screenOf(t, cols, rows, ""), b)}
	x.checkShows(t, "NewSession")
	return x
}

// do makes a call, and asks for promise 11.
func (x *console) do(t *testing.T, c call) (string, int) {
	t.Helper()
	s, h, out, code := checkCall(t, x.s, x.h, c)
	v := x.v
	if c.name == "Size" && code == 0 {
		v, _ = impl.Resize(v, c.cols, c.rows)
	}
	x.s, x.h, x.v = s, h, fed(t, v, []byte(out))
	x.checkShows(t, c.String())
	return out, code
}

// all makes calls that must have no code.
func (x *console) all(t *testing.T, calls ...call) {
	t.Helper()
	for _, c := range calls {
		if _, code := x.do(t, c); code != 0 {
			t.Fatalf("%v: code %d", c, code)
		}
	}
}

func (x *console) checkShows(t *testing.T, what string) {
	t.Helper()
	rows, row, col := impl.View(x.s)
	if got := impl.Lines(x.v); !slices.Equal(got, rows) {
		t.Fatalf("%s: the screen has %q, the view %q", what, got, rows)
	}
	if got := len(x.v.Back) + x.v.Row; got != row || x.v.Col != col || x.v.Late || len(x.v.Hold) > 0 {
		t.Fatalf("%s: the cursor is at %d, %d, in the view at %d, %d; late %v, held %q", what, got, x.v.Col, row, col, x.v.Late, x.v.Hold)
	}
}

// TestScreensByHand has the shown rows at the end; promise 11 is asked behind each call.
func TestScreensByHand(t *testing.T) {
	for _, c := range []struct {
		name       string
		cols, rows int
		calls      []call
		want       string
		row, col   int
	}{
		{"nothing", 6, 3, nil, ">", 0, 2},
		{"enter at the end", 6, 3, []call{typed("abc\r")}, "> abc,>", 1, 2},
		{"enter in the middle", 6, 3, []call{typed("abc\x02\r")}, "> abc,>", 1, 2},
		{"enter at the front", 6, 3, []call{typed("abc\x01\r")}, "> abc,>", 1, 2},
		{"a text that fills its row", 6, 3, []call{typed("abcd")}, "> abcd,", 1, 0},
		{"a text that fills its row, entered", 6, 3, []call{typed("abcd\r")}, "> abcd,,>", 2, 2},
		{"a text that fills its row, entered at the front", 6, 3, []call{typed("abcd\x01\r")}, "> abcd,,>", 2, 2},
		{"as high as the screen", 6, 3, []call{typed("abcdefghijklmno")}, "> abcd,efghij,klmno", 2, 5},
		{"as high as the screen, entered", 6, 3, []call{typed("abcdefghijklmno\r")}, "> abcd,efghij,klmno,>", 3, 2},
		{"higher than the screen", 6, 3, []call{typed("abcdefghijklmnop")}, "efghij,klmnop,", 2, 0},
		{"higher than the screen, at the front", 6, 3, []call{typed("abcdefghijklmnopq\x01")}, "> abcd,efghij,klmnop", 0, 2},
		{"higher than the screen, entered at the front", 6, 3, []call{typed("abcdefghijklmnopq\x01\r")}, "efghij,klmnop,q,>", 3, 2},
		{"a screen of one row", 6, 1, []call{typed("abcdefgh\r"), printed("one\ntwo"), typed("x")}, "efgh,one,two,> x", 3, 3},
		{"a print above a block as high as the screen", 6, 3, []call{typed("abcdefghijklmno"), printed("new")}, "new,> abcd,efghij,klmno", 3, 5},
		{"the same from its first row", 6, 3, []call{typed("abcdefghijklmno\x01"), printed("new\nnewer")}, "new,newer,> abcd,efghij,klmno", 2, 2},
		{"prints that fill their rows", 6, 3, []call{printed("abcdef\nabcdefg"), typed("x")}, "abcdef,abcdef,g,> x", 3, 3},
		{"prints with spaces", 6, 3, []call{printed("a  \n   \n      b")}, "a,,,b,>", 4, 2},
		{"spaces at the end of the block", 6, 3, []call{typed("a      \x01")}, "> a", 0, 2},
		{"spaces at the end of the block, entered", 6, 3, []call{typed("a      \x01\r")}, "> a,,>", 2, 2},
		{"spaces at the end of the block, resized", 6, 3, []call{typed("a      \x01"), sized(4, 3)}, "> a,> a", 1, 2},
		{"narrower", 6, 3, []call{typed("abcdef"), sized(4, 3)}, "> abcd,ef,> ab,cdef,", 4, 0},
		{"wider", 6, 3, []call{typed("abcdef"), sized(9, 3)}, "> abcd,ef,> abcdef", 2, 8},
		{"lower", 6, 3, []call{typed("abcdefghijkl"), sized(6, 2)}, "> abcd,efghij,kl,efghij,kl", 4, 2},
		{"lower, one row", 6, 3, []call{typed("abcdefghijkl\x01"), sized(6, 1), typed("\x05")}, "> abcd,efghij,kl,kl", 3, 2},
		{"higher", 6, 3, []call{typed("abcdefghijklmnop"), sized(6, 9)}, "efghij,klmnop,,> abcd,efghij,klmnop,", 6, 0},
		{"sizes and prints", 6, 3, []call{printed("one"), sized(4, 2), printed("three"), typed("x\r"), sized(8, 4), printed("five six")}, "one,>,thre,e,> x,>,five six,>", 7, 2},
		{"stopped", 6, 3, []call{typed("abcdef"), stopped()}, "", 0, 0},
		{"stopped with prints", 6, 3, []call{printed("one"), typed("abcdef"), stopped(), printed("two")}, "one,", 1, 0},
		{"continued", 6, 3, []call{printed("one"), typed("abcdef"), stopped(), resumed()}, "one,> abcd,ef", 2, 2},
		{"continued with prints", 6, 3, []call{printed("one"), typed("abcdef"), stopped(), printed("two\nand three"), printed("\n"), resumed()}, "one,two,and th,ree,,> abcd,ef", 6, 2},
		{"stopped and resized", 6, 3, []call{printed("one"), typed("abcdef"), stopped(), printed("two"), sized(4, 1), sized(8, 2), resumed(), typed("g")}, "one,,,two,> abcdef,g", 5, 1},
		{"stopped in a block as high as the screen", 6, 3, []call{printed("one"), typed("abcdefghijklmno"), stopped(), printed("two"), resumed()}, "one,two,> abcd,efghij,klmno", 4, 5},
		{"pieces of two columns", 5, 3, []call{typed("\u4e16\u4e16\u4e16"), printed("abcd\u4e16"), typed("\x02\x02\x7f\r")}, "abcd,\u4e16,> \u4e16,\u4e16,>", 4, 2},
		{"marks", 4, 3, []call{typed("e\u0301"), printed("\u0301abce\u0301"), typed("\x02\u0301\r")}, "\u25cc\u0301abc,e\u0301,> \u25cc\u0301e\u0301,,>", 4, 2},
	} {
		x := openConsole(t, "> ", c.cols, c.rows)
		x.all(t, c.calls...)
		if got := strings.Join(impl.Lines(x.v), ","); got != c.want || len(impl.Lines(x.v)) != len(rowsOf(c.want)) || len(x.v.Back)+x.v.Row != c.row || x.v.Col != c.col {
			t.Errorf("%s: %q, %d, %d", c.name, got, len(x.v.Back)+x.v.Row, x.v.Col)
		}
	}
}

// noise is a call that no line hangs on.
func noise(random *rand.Rand) call {
	switch random.IntN(6) {
	case 0:
		return stopped()
	case 1:
		return resumed()
	case 2:
		return sized(2+random.IntN(9), 1+random.IntN(5))
	case 3:
		return printed(string(randomStream(random, random.IntN(4))) + "\n" + randomText(random, 9))
	}
	return printed(times("\n", random.IntN(3)) + randomText(random, 9) + times("\n", random.IntN(3)))
}

// lineKeys are bytes of keys, in which those that end a line or go through the
// history are not rare.
var lineKeys = []string{"a", "b", "c ", "  ", "\u4e16", "\u0301", "e\u0301", "word", "\r", "\r", "\n", "\x10", "\x10", "\x0e", "\x12", "\x03", "\x02", "\x06", "\x01", "\x05", "\x7f", "\x04", "\x0b", "\x15", "\x17", "\x19", "\x14", "\x1f", "\x1bb", "\x1bf", "\x1b[A", "\x1bOB", "\x1b[200~p a\tste\x1b[201~", "\x1b", "\xe4", "\xff", "\x00", "x\u200b", "abcdefgh"}

func randomLineKeys(random *rand.Rand, most int) string {
	out := ""
	for range random.IntN(most + 1) {
		out += lineKeys[random.IntN(len(lineKeys))]
	}
	return out
}

func randomConsole(t *testing.T, random *rand.Rand) *console {
	prompts := []string{"", "> ", "\u4e16", "long prompt: ", " ", "a\u0301 "}
	x := openConsole(t, prompts[random.IntN(len(prompts))], 2+random.IntN(9), 1+random.IntN(5))
	x.h.Cap = 1 + random.IntN(4)
	return x
}

func TestScreensOfLongWalks(t *testing.T) {
	random := rand.New(rand.NewPCG(71, 1))
	for range 300 {
		x := randomConsole(t, random)
		for range 40 {
			switch random.IntN(5) {
			case 0, 1:
				x.do(t, typed(randomLineKeys(random, 6)))
			case 2:
				x.do(t, typed(string(randomKeys(random, 6))))
			case 3:
				x.do(t, waited())
			default:
				x.do(t, noise(random))
			}
		}
	}
}

func TestScreensOfTheGreatestSizes(t *testing.T) {
	random := rand.New(rand.NewPCG(72, 1))
	sizes := [][2]int{{2, 1}, {2, 100}, {3, 99}, {200, 1}, {200, 100}, {40, 8}}
	for _, first := range sizes {
		for _, second := range sizes {
			x := openConsole(t, times("p", 40), first[0], first[1])
			x.all(t, typed(times("\u4e16b", 150)), typed("\x02\x02"), printed(times("long line ", 50)+"\nshort"), sized(second[0], second[1]), typed("\x01"), printed(times("\u4e16", 1000)), stopped(), printed(times("queue", 100)), sized(first[0], first[1]), resumed(), typed("\r"+randomLineKeys(random, 20)))
		}
	}
}

// checkPromise12 gives the same keys to a session that has other calls between
// them and to one that has not.
func checkPromise12(t *testing.T, random *rand.Rand, pieces []call) {
	t.Helper()
	quiet := openConsole(t, "> ", 20, 5)
	loud := randomConsole(t, random)
	loud.h = quiet.h
	for _, c := range pieces {
		for range random.IntN(4) {
			loud.do(t, noise(random))
		}
		if loud.s.Stopped {
			loud.all(t, resumed())
		}
		quiet.all(t, c)
		loud.all(t, c)
		if !slices.Equal(loud.s.Done, quiet.s.Done) || !sameLine(loud.s.Line, quiet.s.Line) || !sameHistory(loud.h, quiet.h) {
			t.Fatalf("%v: %q, %+v with other calls, %q, %+v without", pieces, loud.s.Done, loud.s.Line, quiet.s.Done, quiet.s.Line)
		}
	}
}

func TestLinesHangOnKeysAlone(t *testing.T) {
	random := rand.New(rand.NewPCG(73, 1))
	for _, stream := range []string{
		"ab\x1b[200~a paste\r of \u4e16\x1b[20 lines\n\x1b[201~\rx", "\u4e16\u0301\U0001f600e\u0301\xff\r", "abc\x1b[D\x1b[3~\x1bb\x1bOHx\x1b[Fy\r", "one\rtwo\r\rthree\x10\x10\x10x\x0e\x0e\x0e\r", "a\rb\rc\x1b[A\x1b[A\x12\x03\x19", "\x1b\x1b[A\x1b[9", "\x1b[200~",
	} {
		for range 8 {
			var pieces []call
			for i := 0; i < len(stream); {
				n := min(1+random.IntN(4), len(stream)-i)
				pieces = append(pieces, typed(stream[i:i+n]))
				i += n
			}
			checkPromise12(t, random, pieces)
		}
		checkPromise12(t, random, []call{typed(stream)})
	}
	for range 100 {
		var pieces []call
		for range 15 {
			if random.IntN(6) == 0 {
				pieces = append(pieces, waited())
			} else {
				pieces = append(pieces, typed(randomLineKeys(random, 4)))
			}
		}
		checkPromise12(t, random, pieces)
	}
}

// TestWayByHand goes through a history in which others put what they enter: a
// comma in the list of keys is such an entry.
func TestWayByHand(t *testing.T) {
	for _, c := range []struct {
		name, items, keys, text string
		nav                     bool
		at                      int
	}{
		{"no items", "", "draft\x10", "draft", false, 0},
		{"no items, a search", "", "draft\x12", "draft", false, 0},
		{"no items, then one", "", "draft\x10,\x10", "other 0", true, 0},
		{"up", "one,two", "draft\x10", "two", true, 1},
		{"up to the oldest", "one,two", "draft\x10\x10", "one", true, 0},
		{"up at the oldest", "one,two", "draft\x10\x10\x10\x10", "one", true, 0},
		{"down without a way", "one,two", "draft\x0e", "draft", false, 0},
		{"down behind the newest", "one,two", "draft\x10\x0e", "draft", false, 0},
		{"down and down again", "one,two", "draft\x10\x0e\x0e", "draft", false, 0},
		{"up, up, down", "one,two", "draft\x10\x10\x0e", "two", true, 1},
		{"others add before the way", "one,two", "draft,\x10", "other 0", true, 2},
		{"others add on the way, up", "one,two", "draft\x10,\x10", "one", true, 0},
		{"others add on the way, down", "one,two", "draft\x10\x10,\x0e", "two", true, 1},
		{"others add on the way, down to the draft", "one,two", "draft\x10,,\x0e", "draft", false, 0},
		{"others push all out", "one,two", "\x10,,,,,\x10", "one", true, 0},
		{"a new way sees what others added", "one,two", "draft\x10,\x0e\x10", "other 0", true, 2},
		{"the cursor goes behind the draft", "one", "draft\x01\x10\x0ex", "draftx", false, 0},
		{"a change between", "one,two", "\x10x\x10", "one", true, 0},
		{"a change between is not kept", "one,two", "\x10\x10x\x0e\x10", "one", true, 0},
		{"a change does not become the draft", "one,two", "draft\x10x\x0e", "draft", false, 0},
		{"an empty draft", "one", "\x10\x0e", "", false, 0},
		{"undo on the way", "one,two", "draft\x10\x10\x1f", "two", true, 0},
		{"undo behind the way", "one", "draft\x10\x0e\x1f", "one", false, 0},
		{"enter on the way", "one,two", "\x10\x10\r", "", false, 0},
		{"enter, and up anew", "one,two", "\x10\x10\r\x10", "one", true, 2},
		{"enter with what others added, and up anew", "one,two", "\x10\x10,\r\x10\x10", "other 0", true, 2},
		{"enter, and down", "one,two", "\x10\r\x0e", "", false, 0},
		{"cancel on the way", "one,two", "draft\x10\x03", "", false, 0},
		{"cancel, and down", "one,two", "draft\x10\x03\x0e", "", false, 0},
		{"cancel, and up anew", "one,two", "draft\x10\x10\x03,\x10", "other 0", true, 2},
		{"search", "one,two", "o\x12", "two", false, 0},
		{"search for what others added", "one,two", "o,\x12", "other 0", false, 0},
		{"search in vain", "one,two", "x\x12", "x", false, 0},
		{"search on the way", "one,two,new", "\x10\x15o\x12", "two", true, 2},
		{"search on the way, and up", "one,two,new", "\x10\x15o\x12\x10", "two", true, 1},
		{"search on the way for what others added", "one,two", "\x10\x15o,\x12\x10", "one", true, 0},
		{"search in vain on the way", "one,two", "\x10x\x12\x0e", "", false, 0},
		{"search with the cursor in the middle", "one,twofold", "wf\x02\x12", "wf", false, 0},
		{"search on both sides of the cursor", "two old,twofold", "of\x02\x12", "twofold", false, 0},
	} {
		x := openConsole(t, "> ", 12, 3)
		x.h = impl.History{Cap: 5}
		if c.items != "" {
			x.h.Items = rowsOf(c.items)
		}
		for i, piece := range strings.Split(c.keys, ",") {
			if i > 0 {
				x.h, _ = impl.Add(x.h, "other "+string(rune('0'+i-1)))
			}
			x.all(t, typed(piece))
		}
		if got := x.s.Line.Left + x.s.Line.Right; got != c.text || x.s.Nav != c.nav || x.s.At != c.at {
			t.Errorf("%s: %q, %v, %d", c.name, got, x.s.Nav, x.s.At)
		}
		if !x.s.Nav && (len(x.s.Past) > 0 || x.s.Draft != "") {
			t.Errorf("%s: %q and %q are left", c.name, x.s.Past, x.s.Draft)
		}
	}
}

// TestWaysOfTwoSessions asks for promise 13: on its way a session finds the items
// that were there when the way began, whatever the other one enters.
func TestWaysOfTwoSessions(t *testing.T) {
	random := rand.New(rand.NewPCG(74, 1))
	for range 200 {
		x, other := randomConsole(t, random), randomConsole(t, random)
		x.h = impl.History{Cap: 4, Items: manyItems(random.IntN(5))}
		x.all(t, typed("draft"))
		way := append(slices.Clone(x.h.Items), "draft")
		at := len(way) - 1
		for range 30 {
			other.h = x.h
			other.all(t, typed(randomLineKeys(random, 4)+"\r"))
			x.h = other.h
			if at == len(way)-1 {
				way = append(slices.Clone(x.h.Items), "draft")
				at = len(way) - 1
			}
			key, to := "\x10", max(at-1, 0)
			if random.IntN(3) == 0 {
				key, to = "\x0e", min(at+1, len(way)-1)
			}
			x.all(t, typed(key))
			at = to
			if got := x.s.Line.Left + x.s.Line.Right; got != way[at] {
				t.Fatalf("%q, not %q, which is %d of %q", got, way[at], at, way)
			}
		}
	}
}

// TestBetweenStopAndContinue asks for promise 14.
func TestBetweenStopAndContinue(t *testing.T) {
	random := rand.New(rand.NewPCG(75, 1))
	for range 300 {
		x := randomConsole(t, random)
		x.do(t, printed(randomText(random, 9)))
		x.do(t, typed(randomLineKeys(random, 9)))
		x.all(t, stopped())
		var lines []string
		for range random.IntN(12) {
			c := noise(random)
			switch random.IntN(4) {
			case 0:
				c = typed(randomLineKeys(random, 3))
			case 1:
				c = printed("line\nline \n")
			}
			if c.name == "Continue" {
				continue
			}
			out, code := x.do(t, c)
			if out != "" {
				t.Fatalf("%v while Stopped: %q", c, out)
			}
			if c.name == "Print" && code == 0 {
				lines = append(lines, plainCut(c.b)...)
			}
		}
		if !slices.Equal(x.s.Queue, lines) {
			t.Fatalf("%q, not %q", x.s.Queue, lines)
		}
		want := ""
		for _, line := range lines {
			want += strings.Join(plainRows(line, x.s.Cols), "\r\n") + "\r\n"
		}
		if out, code := x.do(t, resumed()); code != 0 || out != want+plainPaint(plainBlock(x.s)) {
			t.Fatalf("%q: %q, %d", lines, out, code)
		}
	}
}

func roomySession(s impl.Session) impl.Session {
	s.Line.Undo = roomy(s.Line.Undo)
	s.Keys.Hold = roomy(s.Keys.Hold)
	for _, list := range []*[]string{&s.Past, &s.Queue, &s.Log, &s.Done} {
		*list = roomy(*list)
	}
	return s
}

func TestSessionsMemory(t *testing.T) {
	calls := append(allCalls(), typed("\x10"), typed("new\r\x10\x10"), typed("\x0e"), typed("\x03\x10"), typed("ab\x15\x12"), typed("\x1b[200~begun"), typed("x\x1b[3"))
	odd := []impl.Session{{}, with(busySession(), func(s *impl.Session) { s.Cols = -1 }), with(stoppedSession(), func(s *impl.Session) { s.At = 99 }), with(freshSession(), func(s *impl.Session) { s.Queue = manyItems(3) })}
	for _, s := range append(odd, freshSession(), busySession(), stoppedSession(), with(busySession(), func(s *impl.Session) { s.Keys = impl.KeyReader{} })) {
		s = roomySession(s)
		for _, h := range []impl.History{{Cap: 3, Items: roomy([]string{"one", "two"})}, {Cap: 2, Items: roomy([]string{"one", "two"})}, {Cap: 3, Items: roomy([]string{"one", "one"})}, {}} {
			for _, c := range calls {
				checkMemory(t, c.String(), []any{s, h}, func() []any {
					next, nextH, out, _ := c.made(s, h)
					if c.takesKeys() {
						return []any{next, nextH, out}
					}
					return []any{next, out}
				})
			}
		}
		checkMemory(t, "SessionOk", []any{s}, func() []any { return []any{impl.SessionOk(s)} })
		checkMemory(t, "View", []any{s}, func() []any {
			rows, _, _ := impl.View(s)
			return []any{rows}
		})
		b := roomy([]byte("x\r\ny\x10\x1b["))
		checkMemory(t, "Print", []any{s, b}, func() []any {
			next, out, _ := impl.Print(s, b)
			return []any{next, out}
		})
		checkMemory(t, "Input", []any{s, b}, func() []any {
			next, h, out, _ := impl.Input(s, impl.History{Cap: 2}, b)
			return []any{next, h, out}
		})
	}
	checkMemory(t, "NewSession", nil, func() []any {
		s, b, _ := impl.NewSession("> ", 10, 4)
		return []any{s, b}
	})
}
