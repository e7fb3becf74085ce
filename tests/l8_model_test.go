package tests

import (
	"encoding/hex"
	"regexp"
	"slices"
	"strconv"
	"strings"
	"testing"

	"loop.example/s01474/impl"
)

// order is a command of a script: a call and the number of its session, or, with
// the name open, what a session is made with.
type order struct {
	call
	k int
}

const hexPattern = ` (?P<hex>([0-9a-f][0-9a-f])*)$`
const sizePattern = ` (?P<cols>[0-9]{1,3}) (?P<rows>[0-9]{1,3})`

var headPattern = regexp.MustCompile(`^history ([0-9]{1,3})$`)

// orderPatterns are the forms of lines, each with the name of its call.
var orderPatterns = []struct {
	name    string
	pattern *regexp.Regexp
}{
	{"open", regexp.MustCompile(`^open` + sizePattern + hexPattern)},
	{"Print", regexp.MustCompile(`^print (?P<k>[0-3])` + hexPattern)},
	{"Input", regexp.MustCompile(`^keys (?P<k>[0-3])` + hexPattern)},
	{"Wait", regexp.MustCompile(`^wait (?P<k>[0-3])$`)},
	{"Size", regexp.MustCompile(`^size (?P<k>[0-3])` + sizePattern + `$`)},
	{"Stop", regexp.MustCompile(`^stop (?P<k>[0-3])$`)},
	{"Continue", regexp.MustCompile(`^go (?P<k>[0-3])$`)},
}

func plainOrder(line string) (order, bool) {
	for _, p := range orderPatterns {
		found := p.pattern.FindStringSubmatch(line)
		if found == nil {
			continue
		}
		o := order{call: call{name: p.name}}
		for i, name := range p.pattern.SubexpNames() {
			n, _ := strconv.Atoi(found[i])
			switch name {
			case "k":
				o.k = n
			case "cols":
				o.cols = n
			case "rows":
				o.rows = n
			case "hex":
				b, _ := hex.DecodeString(found[i])
				o.b = string(b)
			}
		}
		return o, true
	}
	return order{}, false
}

// plainScript is the forms of scripts: the CAP and the commands, or a code and a
// line.
func plainScript(text string) (int, []order, int, int) {
	if len(text) > 20000 {
		return 0, nil, 1, 0
	}
	limit := 0
	var orders []order
	for n, line := 1, ""; text != ""; n++ {
		line, text, _ = strings.Cut(text, "\n")
		switch {
		case line == "":
		case limit == 0:
			found := headPattern.FindStringSubmatch(line)
			if found != nil {
				limit, _ = strconv.Atoi(found[1])
			}
			if limit < 1 || limit > 100 {
				return 0, nil, 2, n
			}
		default:
			o, ok := plainOrder(line)
			if !ok {
				return 0, nil, 2, n
			}
			orders = append(orders, o)
		}
	}
	if limit == 0 {
		return 0, nil, 3, 0
	}
	return limit, orders, 0, 0
}

// handWorld is a world whose commands are done one after another, by the
// functions of chapter 7, with Feed and Resize of chapter 2. All that a console
// does is held against the models of these, and each screen against its view.
type handWorld struct {
	h        impl.History
	consoles []*console
}

func (w *handWorld) do(t *testing.T, o order) int {
	t.Helper()
	if o.name == "open" {
		return w.open(t, o)
	}
	if o.k >= len(w.consoles) {
		return 9
	}
	x := w.consoles[o.k]
	x.h = w.h
	_, code := x.do(t, o.call)
	w.h = x.h
	return code
}

func (w *handWorld) open(t *testing.T, o order) int {
	t.Helper()
	prompt := plainSettle(o.b)
	if len(w.consoles) == 4 || !plainSessionOk(impl.Session{Prompt: prompt, Cols: o.cols, Rows: o.rows}) {
		return 9
	}
	w.consoles = append(w.consoles, openConsole(t, prompt, o.cols, o.rows))
	return 0
}

// checkSame asks that a world is the one made by hand, and for promise 11.
func (w *handWorld) checkSame(t *testing.T, text string, got impl.World) {
	t.Helper()
	if !sameHistory(got.Hist, w.h) || len(got.Sessions) != len(w.consoles) || len(got.Screens) != len(w.consoles) {
		t.Fatalf("%q: %+v, %d sessions, %d screens, not %+v, %d", text, got.Hist, len(got.Sessions), len(got.Screens), w.h, len(w.consoles))
	}
	for i, x := range w.consoles {
		if !sameSession(got.Sessions[i], x.s) {
			t.Fatalf("%q: session %d is %+v, not %+v", text, i, got.Sessions[i], x.s)
		}
		if !sameScreen(got.Screens[i], x.v) {
			t.Fatalf("%q: screen %d is %s, not %s", text, i, look(got.Screens[i]), look(x.v))
		}
	}
	checkWorldShows(t, text, got)
}

// checkWorldShows asks for promise 11.
func checkWorldShows(t *testing.T, text string, w impl.World) {
	t.Helper()
	for i := range w.Sessions {
		x := console{s: w.Sessions[i], v: w.Screens[i]}
		x.checkShows(t, text)
	}
}

func isNothing(w impl.World) bool {
	return sameHistory(w.Hist, impl.History{}) && len(w.Sessions) == 0 && len(w.Screens) == 0
}

// checkRun runs a text at once and by hand.
func checkRun(t *testing.T, text string) (impl.World, []int, int, int) {
	t.Helper()
	limit, orders, wantCode, wantLine := plainScript(text)
	w, numbers, code, line := impl.Run(text)
	if code != wantCode || line != wantLine {
		t.Fatalf("%q: %d, %d, not %d, %d", text, code, line, wantCode, wantLine)
	}
	if code != 0 {
		if !isNothing(w) || len(numbers) > 0 {
			t.Fatalf("%q has code %d, and %+v, %v", text, code, w, numbers)
		}
		return w, numbers, code, line
	}
	hand := handWorld{h: impl.History{Cap: limit}}
	var want []int
	for _, o := range orders {
		want = append(want, hand.do(t, o))
	}
	if !slices.Equal(numbers, want) {
		t.Fatalf("%q: %v, not %v", text, numbers, want)
	}
	hand.checkSame(t, text, w)
	return w, numbers, code, line
}

// checkWalk runs a script anew behind each of its lines, and asks what that one
// has changed. It gives the numbers and the world at the end.
func checkWalk(t *testing.T, lines []string) ([]int, impl.World) {
	t.Helper()
	limit, _, code, line := plainScript(lines[0])
	if code != 0 || line != 0 {
		t.Fatalf("%q: %d, %d", lines[0], code, line)
	}
	hand := handWorld{h: impl.History{Cap: limit}}
	var want []int
	before, _, _, _ := impl.Run(lines[0])
	hand.checkSame(t, lines[0], before)
	for i := 1; i < len(lines); i++ {
		if lines[i] == "" {
			continue
		}
		o, ok := plainOrder(lines[i])
		if !ok {
			t.Fatalf("no command: %q", lines[i])
		}
		want = append(want, hand.do(t, o))
		text := strings.Join(lines[:i+1], "\n")
		after, numbers, code, line := impl.Run(text)
		if code != 0 || line != 0 || !slices.Equal(numbers, want) {
			t.Fatalf("%q: %v, %d, %d, not %v", text, numbers, code, line, want)
		}
		hand.checkSame(t, text, after)
		checkStep(t, lines[i], o, want[len(want)-1], before, after)
		before = after
	}
	return want, before
}

// checkStep asks that a command changes its own session alone, none at all when
// it is refused, and the history by keys alone.
func checkStep(t *testing.T, line string, o order, number int, before, after impl.World) {
	t.Helper()
	opened := 0
	if o.name == "open" && number == 0 {
		opened = 1
	}
	if len(after.Sessions) != len(before.Sessions)+opened {
		t.Fatalf("%q: %d sessions were there, %d are", line, len(before.Sessions), len(after.Sessions))
	}
	for i := range before.Sessions {
		own := o.name != "open" && o.k == i && number == 0
		if !own && (!sameSession(after.Sessions[i], before.Sessions[i]) || !sameScreen(after.Screens[i], before.Screens[i])) {
			t.Fatalf("%q, number %d, changes session %d", line, number, i)
		}
	}
	if (number != 0 || !o.takesKeys()) && !sameHistory(after.Hist, before.Hist) {
		t.Fatalf("%q, number %d, changes the history", line, number)
	}
}

// hexed writes what stands between the first < and the last > of a line as HEX.
func hexed(line string) string {
	from, to := strings.Index(line, "<"), strings.LastIndex(line, ">")
	if from < 0 || to < from {
		return line
	}
	return line[:from] + hex.EncodeToString([]byte(line[from+1:to])) + line[to+1:]
}

func allHexed(lines []string) []string {
	var out []string
	for _, line := range lines {
		out = append(out, hexed(line))
	}
	return out
}
