package tests

import (
	"fmt"
	"math/rand/v2"
	"slices"
	"strings"
	"testing"

	"loop.example/s01474/impl"
)

func TestConstantsOfWorlds(t *testing.T) {
	if got := [2]int{impl.MaxScript, impl.MaxSessions}; got != [2]int{20000, 4} {
		t.Errorf("%v", got)
	}
}

// checkFault asks for the code and the line of a text.
func checkFault(t *testing.T, text string, code, line int) {
	t.Helper()
	_, _, gotCode, gotLine := checkRun(t, text)
	if gotCode != code || gotLine != line {
		t.Errorf("%.60q: %d, %d, not %d, %d", text, gotCode, gotLine, code, line)
	}
}

func TestScriptsByHand(t *testing.T) {
	for _, c := range []struct {
		text       string
		code, line int
	}{
		// No line at all, and lines without a byte.
		{"", 3, 0}, {"\n", 3, 0}, {"\n\n\n", 3, 0},
		{"history 1", 0, 0}, {"history 1\n", 0, 0}, {"\nhistory 1", 0, 0}, {"\n\n\nhistory 1\n\n\n", 0, 0}, {"history 1\nwait 0", 0, 0}, {"history 1\n\n\nwait 0\n\nwait 0\n\n", 0, 0}, {"\n\nhistory 1\n\nopen 9 9 \n\n", 0, 0},
		{" ", 2, 1}, {" \nhistory 1", 2, 1}, {"\n \nhistory 1", 2, 2}, {"history 1\n ", 2, 2}, {"history 1\n \n", 2, 2}, {"history 1\n  \nwait 0", 2, 2}, {"\n ", 2, 2}, {"history 1\n\n\n ", 2, 4},
		// The first line.
		{"history 0", 2, 1}, {"history 2", 0, 0}, {"history 9", 0, 0}, {"history 99", 0, 0}, {"history 100", 0, 0}, {"history 101", 2, 1}, {"history 999", 2, 1}, {"history 1000", 2, 1}, {"history 0001", 2, 1}, {"history 00100", 2, 1}, {"history 01", 0, 0}, {"history 001", 0, 0}, {"history 010", 0, 0}, {"history 00", 2, 1}, {"history 000", 2, 1}, {"history 18446744073709551617", 2, 1},
		{"history", 2, 1}, {"history ", 2, 1}, {"history +1", 2, 1}, {"history -1", 2, 1}, {"history -0", 2, 1}, {"history 1.", 2, 1}, {"history 1a", 2, 1}, {"history a", 2, 1}, {"history 0x1", 2, 1}, {"history 1_0", 2, 1}, {"history \u0661", 2, 1}, {"history /", 2, 1}, {"history :", 2, 1}, {"history 1:", 2, 1}, {"history 1/", 2, 1},
		{" history 1", 2, 1}, {"history  1", 2, 1}, {"history 1 ", 2, 1}, {"history1", 2, 1}, {"history 1 1", 2, 1}, {"history 1 0 0", 2, 1}, {"history 1  ", 2, 1}, {"history  ", 2, 1},
		{"histor 1", 2, 1}, {"historys 1", 2, 1}, {"History 1", 2, 1}, {"HISTORY 1", 2, 1}, {"1", 2, 1}, {"1 history", 2, 1},
		{"history 1\nhistory 1", 2, 2}, {"history 1\nhistory 2\n", 2, 2}, {"history 1\n\nhistory 100", 2, 3}, {"history 1\nopen 9 9 \nhistory 1", 2, 3},
		{"open 9 9 ", 2, 1}, {"open 9 9 \nhistory 1", 2, 1}, {"go 0\nhistory 1", 2, 1}, {"\nprint 0 \nhistory 1", 2, 2},
		// Words.
		{"history 1\nclose 0", 2, 2}, {"history 1\nstopp 0", 2, 2}, {"history 1\nsto 0", 2, 2}, {"history 1\nSTOP 0", 2, 2}, {"history 1\nStop 0", 2, 2}, {"history 1\nstoP 0", 2, 2}, {"history 1\ncontinue 0", 2, 2}, {"history 1\ninput 0 61", 2, 2}, {"history 1\ng 0", 2, 2}, {"history 1\n0", 2, 2}, {"history 1\n0 go", 2, 2}, {"history 1\ngo0", 2, 2}, {"history 1\nwaits 0", 2, 2}, {"history 1\nkey 0 61", 2, 2}, {"history 1\nPrint 0 61", 2, 2}, {"history 1\nope 9 9 ", 2, 2}, {"history 1\nsizes 0 9 9", 2, 2},
		// K.
		{"history 1\ngo 0", 0, 0}, {"history 1\ngo 3", 0, 0}, {"history 1\ngo 4", 2, 2}, {"history 1\ngo 9", 2, 2}, {"history 1\ngo -1", 2, 2}, {"history 1\ngo +1", 2, 2}, {"history 1\ngo 00", 2, 2}, {"history 1\ngo 01", 2, 2}, {"history 1\ngo 10", 2, 2}, {"history 1\ngo", 2, 2}, {"history 1\ngo ", 2, 2}, {"history 1\ngo a", 2, 2}, {"history 1\ngo /", 2, 2}, {"history 1\ngo 0 ", 2, 2}, {"history 1\n go 0", 2, 2}, {"history 1\ngo  0", 2, 2}, {"history 1\ngo 0 0", 2, 2},
		{"history 1\nprint 4 61", 2, 2}, {"history 1\nprint 00 61", 2, 2}, {"history 1\nprint 61", 2, 2}, {"history 1\nprint  61", 2, 2}, {"history 1\nkeys 4 61", 2, 2}, {"history 1\nkeys 12 61", 2, 2}, {"history 1\nwait 4", 2, 2}, {"history 1\nwait", 2, 2}, {"history 1\nstop 4", 2, 2}, {"history 1\nstop", 2, 2}, {"history 1\nsize 4 9 9", 2, 2}, {"history 1\nsize 9 9", 2, 2}, {"history 1\nsize -1 9 9", 2, 2}, {"history 1\nsize 03 9 9", 2, 2},
		// COLS and ROWS.
		{"history 1\nopen 9 9 ", 0, 0}, {"history 1\nopen 99 99 ", 0, 0}, {"history 1\nopen 100 100 ", 0, 0}, {"history 1\nopen 009 009 ", 0, 0}, {"history 1\nopen 0 0 ", 0, 0}, {"history 1\nopen 000 000 ", 0, 0}, {"history 1\nopen 999 999 ", 0, 0}, {"history 1\nopen 1000 9 ", 2, 2}, {"history 1\nopen 9 1000 ", 2, 2}, {"history 1\nopen 0009 9 ", 2, 2}, {"history 1\nopen 9 0009 ", 2, 2}, {"history 1\nopen -9 9 ", 2, 2}, {"history 1\nopen 9 +9 ", 2, 2}, {"history 1\nopen 9.0 9 ", 2, 2}, {"history 1\nopen a 9 ", 2, 2}, {"history 1\nopen 9 a ", 2, 2}, {"history 1\nopen  9 ", 2, 2}, {"history 1\nopen 9  ", 2, 2}, {"history 1\nopen   ", 2, 2}, {"history 1\nopen  9 9 ", 2, 2},
		{"history 1\nsize 0 9 9", 0, 0}, {"history 1\nsize 0 99 99", 0, 0}, {"history 1\nsize 0 200 100", 0, 0}, {"history 1\nsize 0 000 999", 0, 0}, {"history 1\nsize 0 1000 9", 2, 2}, {"history 1\nsize 0 9 1000", 2, 2}, {"history 1\nsize 0 9", 2, 2}, {"history 1\nsize 0", 2, 2}, {"history 1\nsize 0 9 ", 2, 2}, {"history 1\nsize 0  9", 2, 2}, {"history 1\nsize 0 9 9 ", 2, 2}, {"history 1\nsize 0 9 9 61", 2, 2}, {"history 1\nsize 0 9 -9", 2, 2},
		// HEX.
		{"history 1\nopen 9 9", 2, 2}, {"history 1\nopen 9 9 6", 2, 2}, {"history 1\nopen 9 9 61", 0, 0}, {"history 1\nopen 9 9 616", 2, 2}, {"history 1\nopen 9 9 0123456789abcdef", 0, 0}, {"history 1\nopen 9 9 6A", 2, 2}, {"history 1\nopen 9 9 A6", 2, 2}, {"history 1\nopen 9 9 FF", 2, 2}, {"history 1\nopen 9 9 6g", 2, 2}, {"history 1\nopen 9 9 g6", 2, 2}, {"history 1\nopen 9 9 61 ", 2, 2}, {"history 1\nopen 9 9 61 61", 2, 2}, {"history 1\nopen 9 9  61", 2, 2}, {"history 1\nopen 9 9  ", 2, 2}, {"history 1\nopen 9 9 0x61", 2, 2},
		{"history 1\nprint 0 ", 0, 0}, {"history 1\nprint 0", 2, 2}, {"history 1\nprint 0 6", 2, 2}, {"history 1\nprint 0 61", 0, 0}, {"history 1\nprint 0 6162 ", 2, 2}, {"history 1\nprint 0 6F", 2, 2}, {"history 1\nprint 0  ", 2, 2}, {"history 1\nprint 0 6-", 2, 2}, {"history 1\nprint 0 hello", 2, 2},
		{"history 1\nkeys 0 ", 0, 0}, {"history 1\nkeys 0", 2, 2}, {"history 1\nkeys 0 6", 2, 2}, {"history 1\nkeys 0 61", 0, 0}, {"history 1\nkeys 0 61 ", 2, 2}, {"history 1\nkeys 0 1B", 2, 2}, {"history 1\nkeys 0 61 62", 2, 2}, {"history 1\nkeys 0 /0", 2, 2}, {"history 1\nkeys 0 0:", 2, 2}, {"history 1\nkeys 0 `0", 2, 2},
		{"history 1\nwait 0 ", 2, 2}, {"history 1\nwait 0 61", 2, 2}, {"history 1\nstop 0 ", 2, 2}, {"history 1\nstop 0 0", 2, 2},
		// Other bytes between and behind.
		{"history 1\r\nwait 0", 2, 1}, {"history 1\r", 2, 1}, {"history\t1", 2, 1}, {"\thistory 1", 2, 1}, {"\r\nhistory 1", 2, 1}, {"\r", 2, 1}, {"\t", 2, 1}, {"history 1\n\r\n", 2, 2}, {"history 1\n\t", 2, 2}, {"history 1\nwait 0\r\n", 2, 2}, {"history 1\nwait\t0", 2, 2}, {"history 1\nprint 0\t61", 2, 2}, {"history 1\nprint 0 61\r", 2, 2}, {"history 1\nprint 0 \r", 2, 2}, {"history 1\nopen 9 9 \t", 2, 2}, {"history 1\rwait 0", 2, 1}, {"history 1\vwait 0", 2, 1}, {"history 1\fwait 0", 2, 1},
		{"\xff", 2, 1}, {"\x00", 2, 1}, {"history \xff", 2, 1}, {"history 1\xff", 2, 1}, {"history 1\n\xff", 2, 2}, {"history 1\ngo 0\xff", 2, 2}, {"history 1\ngo \xb0", 2, 2}, {"history 1\nprint 0 \xff\xff", 2, 2}, {"history 1\nprint 0 \xe4\xb8", 2, 2}, {"history 1\ng\xef 0", 2, 2}, {"history 1\nwait 0\x00", 2, 2}, {"history 1\u2028wait 0", 2, 1}, {"history 1\u0085wait 0", 2, 1}, {"history\u00a01", 2, 1}, {"history 1\nprint 0 \uff16\uff11", 2, 2}, {"\ufeffhistory 1", 2, 1}, {"history 1\n\ufffd", 2, 2},
		// More than one fault.
		{"history 0\nxx", 2, 1}, {"xx\nhistory 0", 2, 1}, {"history 1\nxx\nhistory 1", 2, 2}, {"history 1\nwait 0\nyy\nxx\n", 2, 3}, {"\n\nxx\n\nyy", 2, 3}, {"\n\nhistory 1\n\nwait 0\n\nxx\n\nyy", 2, 7}, {"history 1\n\n\n\ngo 4\ngo 5", 2, 5}, {"history 1\nopen 1 1 \nkeys 3 \ngo 4", 2, 4}, {"history 101\n" + times("x", 19988), 2, 1},
	} {
		checkFault(t, c.text, c.code, c.line)
	}
}

// oddBytes are those around what may stand in a line.
const oddBytes = "\x00\t\r\x1f !+-./0123456789:;@AFGZ_`abcdefgz~\x7f\x80\xa0\xb9\xc2\xff"

// TestLinesWithOneByteElse takes a byte out of each line, changes it, and puts
// one more there.
func TestLinesWithOneByteElse(t *testing.T) {
	const head, tail = "history 2\nopen 9 2 3e\n", "\nwait 0\n\ngo 1"
	for _, line := range []string{"open 9 2 61", "open 12 100 ", "print 0 6162", "print 0 ", "keys 0 610d", "keys 1 ", "wait 0", "size 0 12 3", "size 1 9 9", "stop 0", "go 0"} {
		checkFault(t, head+line+tail, 0, 0)
		for i := range len(line) + 1 {
			if i < len(line) {
				checkRun(t, head+line[:i]+line[i+1:]+tail)
				checkRun(t, line[:i]+"\n"+line[i+1:])
				checkRun(t, head+line[:i]+"\n"+line[i+1:]+tail)
			}
			checkRun(t, head+line[:i]+"\n"+line[i:]+tail)
			for j := range len(oddBytes) {
				checkRun(t, head+line[:i]+oddBytes[j:j+1]+line[i:]+tail)
				if i < len(line) {
					checkRun(t, head+line[:i]+oddBytes[j:j+1]+line[i+1:]+tail)
				}
			}
		}
	}
	const first = "history 12"
	for i := range len(first) + 1 {
		for b := range 256 {
			checkRun(t, first[:i]+string([]byte{byte(b)})+first[i:]+tail)
			if i < len(first) {
				checkRun(t, first[:i]+string([]byte{byte(b)})+first[i+1:]+tail)
			}
		}
	}
}

func TestEveryPairOfHexDigits(t *testing.T) {
	for a := range 256 {
		for b := range 256 {
			pair := string([]byte{byte(a), byte(b)})
			code, line := 2, 2
			if pair[0] == 10 || pair[1] == 10 {
				checkRun(t, "history 1\nprint 3 "+pair)
				continue
			}
			if strings.IndexByte("0123456789abcdef", pair[0]) >= 0 && strings.IndexByte("0123456789abcdef", pair[1]) >= 0 {
				code, line = 0, 0
			}
			if _, _, gotCode, gotLine := impl.Run("history 1\nprint 3 " + pair); gotCode != code || gotLine != line {
				t.Errorf("%q: %d, %d", pair, gotCode, gotLine)
			}
		}
	}
	for b := range 256 {
		w, numbers, _, _ := impl.Run(fmt.Sprintf("history 1\nopen 9 9 78%02x", b))
		if want := plainSettle("x" + string([]byte{byte(b)})); len(numbers) != 1 || numbers[0] != 0 || w.Sessions[0].Prompt != want {
			t.Errorf("%02x: %v, %+v", b, numbers, w.Sessions)
		}
	}
}

// writings are the decimals of a number with up to five digits.
func writings(n int) []string {
	var out []string
	for digits := range 5 {
		out = append(out, fmt.Sprintf("%0*d", digits+1, n))
	}
	return slices.Compact(out)
}

func TestEveryCap(t *testing.T) {
	for n := range 1200 {
		for _, digits := range writings(n) {
			w, numbers, code, line := impl.Run("\nhistory " + digits)
			if len(digits) > 3 || n < 1 || n > 100 {
				if code != 2 || line != 2 || !isNothing(w) {
					t.Errorf("%s: %d, %d, %+v", digits, code, line, w)
				}
			} else if code != 0 || line != 0 || len(numbers) != 0 || !sameHistory(w.Hist, impl.History{Cap: n}) || len(w.Sessions)+len(w.Screens) != 0 {
				t.Errorf("%s: %d, %d, %v, %+v", digits, code, line, numbers, w)
			}
		}
	}
}

// checkSize opens a session of a size, and gives it to one that is there.
func checkSize(t *testing.T, cols, rows string, fits bool) {
	t.Helper()
	w, numbers, code, _ := impl.Run("history 1\nopen 9 2 3e\nsize 0 " + cols + " " + rows + "\nopen " + cols + " " + rows + " 3e")
	want := []int{0, 2, 9}
	if fits {
		want = []int{0, 0, 0}
	}
	if len(cols) > 3 || len(rows) > 3 {
		if code != 2 {
			t.Errorf("%s, %s: code %d", cols, rows, code)
		}
		return
	}
	if code != 0 || !slices.Equal(numbers, want) {
		t.Errorf("%s, %s: %d, %v", cols, rows, code, numbers)
		return
	}
	size := "9 2"
	if fits {
		size = strings.TrimLeft(cols, "0") + " " + strings.TrimLeft(rows, "0")
	}
	for i := range w.Sessions {
		s, v := w.Sessions[i], w.Screens[i]
		if fmt.Sprint(s.Cols, s.Rows) != size || fmt.Sprint(v.Cols, v.Rows) != size {
			t.Errorf("%s, %s: session %d is %d, %d, its screen %d, %d", cols, rows, i, s.Cols, s.Rows, v.Cols, v.Rows)
		}
	}
	checkWorldShows(t, cols+" "+rows, w)
}

func TestEverySize(t *testing.T) {
	for n := range 1100 {
		for _, digits := range writings(n) {
			checkSize(t, digits, "1", n >= 2 && n <= 200)
			checkSize(t, "2", digits, n >= 1 && n <= 100)
		}
	}
	checkSize(t, "200", "100", true)
	checkSize(t, "201", "101", false)
	checkSize(t, "1", "0", false)
}

// TestLengths has texts of MaxScript bytes and of one more.
func TestLengths(t *testing.T) {
	for _, c := range []struct {
		front, fill, back string
		code, line        int
	}{
		{"history 1", "\n", "", 0, 0},
		{"", "\n", "history 1", 0, 0},
		{"", "\n", "", 3, 0},
		{"history 1\n", "\n", "wait 0", 0, 0},
		{"history 1\nopen 9 9 \nprint 0 ", "61", "", 0, 0},
		{"history 1\nopen 9 9 \nkeys 0 ", "61", "\n", 0, 0},
		{"history 1\nopen 9 9 ", "61", "\n", 0, 0},
		{"", " ", "", 2, 1},
		{"", "\xff", "", 2, 1},
		{"history 1\n", "x", "", 2, 2},
		{"history 1", "\n", "x", 2, 19991},
		{"history 1", "\n", " ", 2, 19991},
		{"", "\n", "x", 2, 20000},
	} {
		n := (20000 - len(c.front) - len(c.back)) / len(c.fill)
		text := c.front + times(c.fill, n) + c.back
		odd := times("\n", 20000-len(text))
		checkFault(t, text+odd, c.code, c.line)
		for _, long := range []string{text + odd + "\n", odd + text + "\n", text + odd + "x", text + odd + " ", text + odd + "\xff", text + text} {
			w, numbers, code, line := impl.Run(long)
			if len(long) > 20000 && (code != 1 || line != 0 || !isNothing(w) || len(numbers) > 0) {
				t.Errorf("%.30q of %d bytes: %d, %d", long, len(long), code, line)
			}
		}
	}
	for _, long := range []string{times("\xff", 1<<20), times("\n", 20001), times("\u4e16", 6667), "history 1\nopen 9 9 \n" + times("wait 0\n", 2855)} {
		checkFault(t, long, 1, 0)
	}
	// 20000 bytes, but fewer runes.
	checkFault(t, "history 1\n"+times("\u4e16", 6663)+"x", 2, 2)
}

func TestPromptsByHand(t *testing.T) {
	for _, c := range []struct {
		b, prompt string
		ok        bool
	}{
		{"", "", true}, {"> ", "> ", true}, {" ", " ", true}, {"a\tb", "a b", true}, {"a\nb", "a\ufffdb", true}, {"\r", "\ufffd", true}, {"\x1b[J", "\ufffd[J", true}, {"\x00\x7f", "\ufffd\ufffd", true}, {"\u0085", "\ufffd", true}, {"\xff", "\ufffd", true}, {"\xe4\xb8", "\ufffd\ufffd", true}, {"\xed\xa0\x80", "\ufffd\ufffd\ufffd", true},
		{"\u0301", "\u25cc\u0301", true}, {"\u200b\u0301> ", "\u25cc\u200b\u0301> ", true}, {"a\u0301", "a\u0301", true}, {"\u4e16>", "\u4e16>", true}, {"\U0001f600", "\U0001f600", true},
		{times("p", 39), times("p", 39), true}, {times("p", 40), times("p", 40), true}, {times("p", 41), "", false}, {times("\u4e16", 40), times("\u4e16", 40), true}, {times("\u4e16", 41), "", false}, {times("a\u0301", 20), times("a\u0301", 20), true}, {times("a\u0301", 20) + "b", "", false}, {times("\xff", 40), times("\ufffd", 40), true}, {times("\xff", 41), "", false}, {times("\t", 40), times(" ", 40), true}, {times("\t", 41), "", false},
		{"\u0301" + times("p", 38), "\u25cc\u0301" + times("p", 38), true}, {"\u0301" + times("p", 39), "", false}, {times("\u0301", 39), "\u25cc" + times("\u0301", 39), true}, {times("\u0301", 40), "", false}, {times("p", 5000), "", false},
	} {
		for _, size := range []string{"9 3", "2 1", "200 100"} {
			numbers, w := checkWalk(t, allHexed([]string{"history 3", "open " + size + " <" + c.b + ">", "keys 0 <x>"}))
			if c.ok && (numbers[0] != 0 || numbers[1] != 0 || w.Sessions[0].Prompt != c.prompt) {
				t.Errorf("%.60q: %v, %+v", c.b, numbers, w.Sessions)
			}
			if !c.ok && (numbers[0] != 9 || numbers[1] != 9 || len(w.Sessions) != 0 || len(w.Screens) != 0) {
				t.Errorf("%.60q: %v, %+v", c.b, numbers, w.Sessions)
			}
		}
	}
}

// numbered is a line and the number that it must have.
type numbered struct {
	line   string
	number int
}

// checkNumbers makes a walk of lines behind `history 5`.
func checkNumbers(t *testing.T, name string, lines []numbered) impl.World {
	t.Helper()
	texts := []string{"history 5"}
	var want []int
	for _, l := range lines {
		texts = append(texts, hexed(l.line))
		want = append(want, l.number)
	}
	got, w := checkWalk(t, texts)
	if !slices.Equal(got, want) {
		t.Errorf("%s: %v, not %v", name, got, want)
	}
	return w
}

func TestNumbersByHand(t *testing.T) {
	for _, c := range []struct {
		name  string
		lines []numbered
	}{
		{"nothing is there", []numbered{{"print 0 <x>", 9}, {"keys 1 <x>", 9}, {"wait 2", 9}, {"size 3 9 9", 9}, {"size 0 1 0", 9}, {"stop 0", 9}, {"go 0", 9}}},
		{"too many", []numbered{{"open 9 9 <a>", 0}, {"open 8 8 <b>", 0}, {"open 7 7 <c>", 0}, {"open 6 6 <d>", 0}, {"open 5 5 <e>", 9}, {"open 1 1 ", 9}, {"keys 3 <x>", 0}, {"stop 0", 0}, {"open 5 5 <e>", 9}}},
		{"what is refused takes no place", []numbered{{"open 1 9 ", 9}, {"open 9 0 ", 9}, {"open 201 9 ", 9}, {"open 9 101 ", 9}, {"open 9 9 <" + times("p", 41) + ">", 9}, {"keys 0 <x>", 9}, {"open 9 9 ", 0}, {"keys 0 <x>", 0}, {"keys 1 <x>", 9}, {"open 1 9 ", 9}, {"keys 1 <x>", 9}, {"open 9 9 ", 0}, {"open 9 9 ", 0}, {"keys 3 <x>", 9}, {"open 9 9 ", 0}, {"keys 3 <x>", 0}}},
		{"stop and go", []numbered{{"open 9 3 <> >", 0}, {"go 0", 3}, {"stop 0", 0}, {"stop 0", 3}, {"keys 0 <x>", 3}, {"keys 0 ", 3}, {"wait 0", 3}, {"print 0 <x>", 0}, {"go 0", 0}, {"go 0", 3}, {"keys 0 <x>", 0}, {"wait 0", 0}}},
		{"the queue", []numbered{{"open 9 3 <> >", 0}, {"print 0 <" + times("\n", 30) + ">", 0}, {"stop 0", 0}, {"print 0 <" + times("x\n", 21) + ">", 3}, {"print 0 <" + times("x\n", 20) + "y>", 3}, {"print 0 <" + times("x\n", 19) + ">", 0}, {"print 0 <a\nb>", 3}, {"print 0 <a\n>", 0}, {"print 0 ", 0}, {"print 0 <\n>", 3}, {"print 0 <a>", 3}, {"go 0", 0}, {"print 0 <a>", 0}, {"stop 0", 0}, {"print 0 <a>", 0}, {"go 0", 0}}},
		{"as many bytes as a print takes", []numbered{{"open 9 3 <> >", 0}, {"print 0 <" + times("x", 5000) + ">", 0}, {"print 0 ", 0}}},
		{"one more", []numbered{{"open 9 3 <> >", 0}, {"print 0 <" + times("x", 5001) + ">", 2}, {"stop 0", 0}, {"print 0 <x>", 0}}},
		{"one more, stopped", []numbered{{"open 9 3 <> >", 0}, {"stop 0", 0}, {"print 0 <" + times("\n", 5001) + ">", 2}, {"print 0 <" + times("x", 2000) + ">", 0}, {"go 0", 0}}},
		{"as many bytes as keys take", []numbered{{"open 9 3 <> >", 0}, {"keys 0 <" + times("x", 2000) + ">", 0}, {"keys 0 <" + times("x", 2001) + ">", 2}}},
		{"as many bytes as are held", []numbered{{"open 9 3 <> >", 0}, {"keys 0 <\x1b[200~" + times("x", 1990) + ">", 0}, {"keys 0 <" + times("y", 11) + ">", 2}, {"keys 0 <" + times("y", 10) + ">", 0}, {"keys 0 ", 0}, {"keys 0 <y>", 2}, {"keys 0 <\x1b[201~>", 2}, {"wait 0", 0}, {"stop 0", 0}, {"keys 0 <y>", 2}, {"keys 0 ", 3}}},
		{"sizes", []numbered{{"open 9 3 <> >", 0}, {"keys 0 <abcdefghij>", 0}, {"size 0 1 3", 2}, {"size 0 0 3", 2}, {"size 0 201 3", 2}, {"size 0 999 3", 2}, {"size 0 9 0", 2}, {"size 0 9 101", 2}, {"size 0 000 000", 2}, {"size 0 2 1", 0}, {"size 0 200 100", 0}, {"size 0 9 3", 0}, {"size 0 9 3", 0}, {"stop 0", 0}, {"size 0 1 1", 2}, {"size 0 12 2", 0}, {"print 0 <x>", 0}, {"size 0 201 2", 2}, {"go 0", 0}}},
		{"no keys, no lines", []numbered{{"open 9 3 ", 0}, {"keys 0 ", 0}, {"wait 0", 0}, {"print 0 ", 0}, {"print 0 <\n>", 0}}},
		{"what is held and waits", []numbered{{"open 9 3 <> >", 0}, {"keys 0 <a\x1b>", 0}, {"wait 0", 0}, {"keys 0 <[A\xe4\xb8>", 0}, {"wait 0", 0}, {"wait 0", 0}, {"keys 0 <\x1b[200~x>", 0}, {"wait 0", 0}, {"keys 0 <y\x1b[201~\r>", 0}}},
	} {
		checkNumbers(t, c.name, c.lines)
	}
}

// TestSessionsThatAreNotThere has each command for each K, with none to four
// sessions.
func TestSessionsThatAreNotThere(t *testing.T) {
	for n := range 5 {
		for k := range 4 {
			for _, c := range []numbered{{"print %d <a\nb>", 0}, {"print %d ", 0}, {"keys %d <x\r>", 0}, {"keys %d <" + times("x", 2001) + ">", 2}, {"wait %d", 0}, {"size %d 7 3", 0}, {"size %d 1 3", 2}, {"stop %d", 0}, {"go %d", 3}} {
				var lines []numbered
				for i := range n {
					lines = append(lines, numbered{fmt.Sprintf("open %d 4 <%d> >", 10+i, i), 0}, numbered{fmt.Sprintf("keys %d <of %d>", i, i), 0})
				}
				number := c.number
				if k >= n {
					number = 9
				}
				lines = append(lines, numbered{strings.Replace(c.line, "%d", fmt.Sprint(k), 1), number})
				checkNumbers(t, c.line, lines)
			}
		}
	}
}

// TestWorldsByHand has the items of the history and the view of each session at
// the end. The cases are behind `history 3`, and three sessions are open, of 20,
// 8 and 6 columns.
func TestWorldsByHand(t *testing.T) {
	for _, c := range []struct {
		name  string
		lines []string
		items string
		views []string
	}{
		{"nothing", nil, "", []string{"a>", "b>", "c>"}},
		{"found by up in another", []string{"keys 0 <one\r>", "keys 1 <\x10>"}, "one", []string{"a> one,a>", "b> one", "c>"}},
		{"found by search in another", []string{"keys 0 <one\rtwo\r>", "keys 1 <n\x12>"}, "one,two", []string{"a> one,a> two,a>", "b> one", "c>"}},
		{"found by an arrow that comes in pieces", []string{"keys 0 <one\r>", "keys 2 <\x1b>", "print 2 <x>", "keys 2 <[>", "keys 2 <A>"}, "one", []string{"a> one,a>", "b>", "x,c> one,"}},
		{"from two into a third", []string{"keys 0 <one\r>", "keys 1 <two\r>", "keys 2 <\x10>", "keys 0 <\x10\x10>"}, "one,two", []string{"a> one,a> one", "b> two,b>", "c> two,"}},
		{"a way stays as it was, up", []string{"keys 0 <one\r>", "keys 1 <\x10>", "keys 0 <two\r>", "keys 1 <\x10>"}, "one,two", []string{"a> one,a> two,a>", "b> one", "c>"}},
		{"a way stays as it was, down", []string{"keys 0 <one\rtwo\r>", "keys 1 <dr\x10\x10>", "keys 0 <six\r>", "keys 1 <\x0e>"}, "one,two,six", []string{"a> one,a> two,a> six,a>", "b> two", "c>"}},
		{"a way stays as it was, down to the draft", []string{"keys 0 <one\rtwo\r>", "keys 1 <dr\x10\x10>", "keys 0 <six\r>", "keys 1 <\x0e\x0e>"}, "one,two,six", []string{"a> one,a> two,a> six,a>", "b> dr", "c>"}},
		{"a way stays as it was, all pushed out", []string{"keys 0 <one\rtwo\r>", "keys 1 <\x10>", "keys 0 <3\r4\r5\r>", "keys 1 <\x10>"}, "3,4,5", []string{"a> one,a> two,a> 3,a> 4,a> 5,a>", "b> one", "c>"}},
		{"a new way finds it", []string{"keys 0 <one\r>", "keys 1 <\x10>", "keys 0 <two\r>", "keys 1 <\x0e\x10>"}, "one,two", []string{"a> one,a> two,a>", "b> two", "c>"}},
		{"a new way behind an enter finds it", []string{"keys 0 <one\r>", "keys 1 <\x10>", "keys 0 <two\r>", "keys 1 <\r\x10\x10>"}, "one,two,one", []string{"a> one,a> two,a>", "b> one,b> two", "c>"}},
		{"a new way behind a cancel finds it", []string{"keys 0 <one\r>", "keys 1 <\x10>", "keys 0 <two\r>", "keys 1 <\x03\x10>"}, "one,two", []string{"a> one,a> two,a>", "b> two", "c>"}},
		{"no way without items", []string{"keys 1 <\x10>", "keys 0 <one\r>", "keys 1 <\x10>"}, "one", []string{"a> one,a>", "b> one", "c>"}},
		{"a search on the way finds what is new", []string{"keys 0 <one\r>", "keys 1 <\x10>", "keys 0 <two\r>", "keys 1 <\x15w\x12>"}, "one,two", []string{"a> one,a> two,a>", "b> two", "c>"}},
		{"a search finds no more what was pushed out", []string{"keys 0 <one\r2\r3\r4\r>", "keys 1 <on\x12>"}, "2,3,4", []string{"a> one,a> 2,a> 3,a> 4,a>", "b> on", "c>"}},
		{"two ways at the same time", []string{"keys 2 <1\r2\r3\r>", "keys 0 <\x10\x10>", "keys 1 <\x10>", "keys 0 <\x10>", "keys 1 <\x10>", "keys 0 <\x0e\x0e>"}, "1,2,3", []string{"a> 3", "b> 2", "c> 1,c> 2,c> 3,c>"}},
		{"the same from two is one item", []string{"keys 0 <one\r>", "keys 1 <one\r>", "keys 2 <\x10\x10>"}, "one", []string{"a> one,a>", "b> one,b>", "c> one,"}},
		{"nothing is no item", []string{"keys 0 <\r>", "keys 1 <\x10>"}, "", []string{"a>,a>", "b>", "c>"}},
		{"what was found is entered anew", []string{"keys 0 <one\rtwo\r>", "keys 1 <\x10\x10\r>", "keys 2 <\x10>"}, "one,two,one", []string{"a> one,a> two,a>", "b> one,b>", "c> one,"}},
		{"the first item goes", []string{"keys 0 <1\r>", "keys 1 <2\r>", "keys 2 <3\r>", "keys 0 <4\r>", "keys 1 <\x10\x10\x10\x10>"}, "2,3,4", []string{"a> 1,a> 4,a>", "b> 2,b> 2", "c> 3,c>"}},
		{"others enter while it is stopped", []string{"stop 1", "keys 0 <one\r>", "keys 1 <\x10>", "go 1", "keys 1 <\x10>"}, "one", []string{"a> one,a>", "b> one", "c>"}},
		{"stopped on its way", []string{"keys 0 <one\r>", "keys 1 <\x10>", "stop 1", "keys 0 <two\r>", "go 1", "keys 1 <\x10\x0e\x10>"}, "one,two", []string{"a> one,a> two,a>", "b> two", "c>"}},
		{"opened late", []string{"keys 0 <one\r>", "open 20 2 <d> >", "keys 3 <\x10>"}, "one", []string{"a> one,a>", "b>", "c>", "d> one"}},
		{"a kill is not shared", []string{"keys 0 <one\x15>", "keys 1 <\x19>", "keys 0 <\x19>"}, "", []string{"a> one", "b>", "c>"}},
		{"prints", []string{"keys 0 <x>", "keys 1 <y>", "print 1 <one\nabcdefghij>", "print 2 <\n>"}, "", []string{"a> x", "one,abcdefgh,ij,b> y", ",c>"}},
		{"sizes", []string{"keys 0 <abc>", "keys 1 <abc>", "size 1 5 2", "size 0 1 1", "size 2 200 100"}, "", []string{"a> abc", "b> abc,b> ab,c", "c>,c>"}},
		{"stopped, nothing is seen", []string{"keys 1 <ab>", "print 1 <old>", "stop 1", "print 1 <new>", "keys 1 <c>"}, "", []string{"a>", "old,", "c>"}},
		{"what was printed then comes in order", []string{"keys 1 <ab>", "print 1 <old>", "stop 1", "print 1 <1\n2>", "print 0 <x>", "print 1 <3 \nlonger line\n>", "go 1"}, "", []string{"x,a>", "old,1,2,3,longer l,ine,b> ab", "c>"}},
		{"stopped and resized", []string{"keys 1 <ab>", "stop 1", "print 1 <abcdef>", "size 1 4 3", "go 1"}, "", []string{"a>", ",abcd,ef,b> a,b", "c>"}},
		{"one is stopped, one goes on", []string{"stop 0", "stop 1", "go 0", "keys 0 <x\r>", "print 1 <y>"}, "x", []string{"a> x,a>", "", "c>"}},
	} {
		head := []string{"history 3", "open 20 3 <a> >", "open 8 3 <b> >", "open 6 2 <c> >"}
		_, w := checkWalk(t, allHexed(append(head, c.lines...)))
		if got := strings.Join(w.Hist.Items, ","); got != c.items {
			t.Errorf("%s: items %q", c.name, got)
		}
		var views []string
		for _, v := range w.Screens {
			views = append(views, strings.Join(impl.Lines(v), ","))
		}
		if !slices.Equal(views, c.views) {
			t.Errorf("%s: %q", c.name, views)
		}
	}
}

// randomSize is in range but for one of eight.
func randomSize(random *rand.Rand) string {
	if random.IntN(8) == 0 {
		bad := []string{"1 3", "0 3", "201 3", "9 0", "9 101", "999 999", "000 00"}
		return bad[random.IntN(len(bad))]
	}
	return fmt.Sprintf("%d %d", 2+random.IntN(9), 1+random.IntN(5))
}

func randomPrint(random *rand.Rand) string {
	switch random.IntN(6) {
	case 0:
		return times("line\n", random.IntN(24))
	case 1:
		return string(randomStream(random, random.IntN(5)))
	}
	return times("\n", random.IntN(2)) + randomText(random, 9) + times("\n", random.IntN(2)) + randomText(random, 3)
}

// randomCommand is for one of most sessions, that may be there or not.
func randomCommand(random *rand.Rand, most int) string {
	k := random.IntN(most)
	switch random.IntN(12) {
	case 0:
		prompts := []string{"", "> ", "\u4e16", "long prompt: ", "\u0301a\t", "\xff", times("p", 40), times("p", 41)}
		return "open " + randomSize(random) + " " + hexed("<"+prompts[random.IntN(len(prompts))]+">")
	case 1, 2, 3:
		return fmt.Sprintf("print %d %x", k, randomPrint(random))
	case 4, 5, 6:
		return fmt.Sprintf("keys %d %x", k, randomLineKeys(random, 8))
	case 7:
		return fmt.Sprintf("keys %d %x", k, randomKeys(random, 6))
	case 8:
		return fmt.Sprintf("wait %d", k)
	case 9:
		return fmt.Sprintf("size %d %s", k, randomSize(random))
	case 10:
		return fmt.Sprintf("stop %d", k)
	}
	return fmt.Sprintf("go %d", k)
}

// randomLines is a script with lines of no byte between the others.
func randomLines(random *rand.Rand, n int) []string {
	lines := []string{times("\n", random.IntN(3)) + fmt.Sprintf("history %d", 1+random.IntN(5))}
	most := 1 + random.IntN(4)
	for range most {
		lines = append(lines, fmt.Sprintf("open %d %d 3e20", 2+random.IntN(12), 1+random.IntN(5)))
	}
	for range n {
		lines = append(lines, randomCommand(random, most))
		if random.IntN(8) == 0 {
			lines = append(lines, "", randomCommand(random, 4))
		}
	}
	return lines
}

// TestLongScripts asks for promises 11 and 15 behind every command.
func TestLongScripts(t *testing.T) {
	random := rand.New(rand.NewPCG(81, 1))
	for range 120 {
		checkWalk(t, randomLines(random, 40))
	}
	for range 100 {
		lines := randomLines(random, 150)
		checkRun(t, strings.Join(lines, "\n"))
		checkRun(t, strings.Join(lines, "\n\n")+"\n")
	}
}

// TestGreatestWorlds has four sessions of the greatest and least sizes with all
// that they can hold.
func TestGreatestWorlds(t *testing.T) {
	sizes := []string{"200 100", "2 1", "2 100", "200 1"}
	lines := []string{"history 100"}
	for _, size := range sizes {
		lines = append(lines, "open "+size+" <"+times("\u4e16", 40)+">")
	}
	for k := range sizes {
		lines = append(lines, fmt.Sprintf("keys %d <\x1b[200~%s\x1b[201~>", k, times("ab ", 100)))
	}
	for k := range sizes {
		lines = append(lines, fmt.Sprintf("print %d <%s>", k, times("\u4e16x", 100)), fmt.Sprintf("size %d %s", k, sizes[3-k]), fmt.Sprintf("keys %d <\x01\x0b\x19\r\x10>", k), fmt.Sprintf("stop %d", k), fmt.Sprintf("print %d <%s>", k, times("queue\n", 20)), fmt.Sprintf("size %d %s", k, sizes[k]), fmt.Sprintf("go %d", k))
	}
	numbers, w := checkWalk(t, allHexed(lines))
	if slices.Max(numbers) != 0 || len(w.Hist.Items) != 1 {
		t.Errorf("%v, %d items", numbers, len(w.Hist.Items))
	}
	// As many commands as a text can have, and as many items as a history.
	text := "history 100\nopen 9 2 3e\nopen 9 2 3e\n"
	for i := 0; len(text) < 19900; i++ {
		text += hexed(fmt.Sprintf("keys %d <%d\r>\n", i%2, i))
	}
	if w, _, _, _ := checkRun(t, text); len(w.Hist.Items) != 100 {
		t.Errorf("%d items", len(w.Hist.Items))
	}
	checkRun(t, "history 1\nopen 9 2 3e\n"+times("stop 0\ngo 0\n", 1600))
	checkRun(t, "history 1\n"+times("go 0\n", 3998))
}

// scriptPieces are what texts that are mostly none to be run are made of.
var scriptPieces = []string{"history", "history 3", "history 3\n", "open", "print", "keys", "wait", "size", "stop", "go", " ", " ", " ", "0", "1", "3", "4", "9", "10", "100", "61", "0d", "FF", "\n", "\n", "\n", "\r\n", "\t", "\xff", "\u4e16", "open 9 9 3e\n", "keys 0 610d\n", "print 0 6162\n", "size 0 5 2\n", "wait 1\n", "stop 0\n", "go 0\n"}

func TestAnyText(t *testing.T) {
	random := rand.New(rand.NewPCG(82, 1))
	for i := range 20000 {
		text := ""
		if i%2 == 0 {
			text = "history 2\nopen 9 3 3e\n"
		}
		for range random.IntN(9) {
			text += scriptPieces[random.IntN(len(scriptPieces))]
		}
		checkRun(t, text)
	}
	for range 5000 {
		b := make([]byte, random.IntN(40))
		for i := range b {
			b[i] = byte(random.IntN(256))
		}
		checkRun(t, string(b))
		checkRun(t, "history 9\n"+string(b))
	}
	for a := range 256 {
		for b := range 256 {
			checkRun(t, string([]byte{byte(a), byte(b)}))
		}
	}
}

// TestWorldMemory asks that no two lists of a world share memory, and that a
// world shares none with that of the same text run before.
func TestWorldMemory(t *testing.T) {
	random := rand.New(rand.NewPCG(83, 1))
	texts := []string{
		"", "history 1", "history 0", "history 1\nxx", "history 5\nopen 9 2 3e\nopen 9 2 3e",
		strings.Join(allHexed([]string{"history 5", "open 9 2 <> >", "open 9 2 <> >", "open 9 2 <> >", "keys 0 <one\rtwo\r>", "keys 1 <\x10>", "keys 2 <draft\x10\x10>", "keys 0 <\x10\x1b[>", "stop 1", "print 1 <a\nb>", "print 2 <a\nb\nc>", "size 2 5 3"}), "\n"),
		strings.Join(allHexed([]string{"history 5", "open 9 2 <> >", "open 9 2 <> >", "keys 0 <one\r>", "keys 1 <\x10>", "size 0 1 1", "size 1 1 1", "stop 0", "stop 0", "keys 0 <x>", "go 1", "keys 2 <x>", "open 1 1 "}), "\n"),
	}
	for range 60 {
		texts = append(texts, strings.Join(randomLines(random, 30), "\n"))
	}
	for _, text := range texts {
		first, numbers, code, line := impl.Run(text)
		checkMemory(t, text, []any{first, numbers}, func() []any {
			again, againNumbers, againCode, againLine := impl.Run(text)
			if dumpOf([]any{again, againNumbers}) != dumpOf([]any{first, numbers}) || againCode != code || againLine != line {
				t.Errorf("%q gives another answer when it is run again", text)
			}
			return []any{again, againNumbers}
		})
	}
}
