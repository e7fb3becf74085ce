package tests

import (
	"fmt"
	"math"
	"math/rand/v2"
	"slices"
	"strings"
	"testing"

	"loop.example/s01474/impl"
)

func TestConstantsOfLines(t *testing.T) {
	got := []int{impl.MaxLine, impl.MaxUndo, impl.DidNothing, impl.DidChange, impl.DidBell, impl.DidEnter, impl.DidCancel, impl.DidUp, impl.DidDown, impl.DidSearch, impl.DidEnd}
	if want := []int{300, 50, 0, 1, 2, 3, 4, 5, 6, 7, 8}; !slices.Equal(got, want) {
		t.Errorf("%v, not %v", got, want)
	}
}

func checkSettle(t *testing.T, text string) {
	t.Helper()
	got := impl.Settle(text)
	if want := plainSettle(text); got != want {
		t.Fatalf("Settle of %q: %q, not %q", text, got, want)
	}
	if again := impl.Settle(got); again != got {
		t.Fatalf("Settle of %q, which is settled: %q", got, again)
	}
	if ok := impl.LineOk(impl.Line{Left: text}); ok != (got == text && runesIn(text) <= impl.MaxLine) {
		t.Fatalf("a line with %q: %v, and it settles to %q", text, ok, got)
	}
}

func TestSettleByHand(t *testing.T) {
	for _, c := range []struct{ in, want string }{
		{"", ""}, {"abc", "abc"}, {" ", " "}, {"\t", " "}, {"a\nb", "a\ufffdb"}, {"\x7f\u0080\u009f\u00a0", "\ufffd\ufffd\ufffd\u00a0"},
		{"\u0301", "\u25cc\u0301"}, {"\u0301a\u0301", "\u25cc\u0301a\u0301"}, {"\t\u0301", " \u0301"}, {"\x01\u0301", "\ufffd\u0301"}, {"\xff\xe4\xb8", "\ufffd\ufffd\ufffd"},
		{"\u4e16\ufe0f", "\u4e16\ufe0f"}, {"\u25cc\u0301", "\u25cc\u0301"}, {"\ufffd", "\ufffd"}, {"\xed\xa0\x80", "\ufffd\ufffd\ufffd"},
	} {
		if got := impl.Settle(c.in); got != c.want {
			t.Errorf("Settle of %q: %q, not %q", c.in, got, c.want)
		}
		checkSettle(t, c.in)
	}
}

func TestSettleOfEdges(t *testing.T) {
	for _, a := range edgeRunes() {
		one := string(a)
		checkSettle(t, one)
		checkSettle(t, one+one)
		checkSettle(t, "x"+one+"x"+one)
	}
	for i := range 256 {
		checkSettle(t, string([]byte{byte(i)}))
		checkSettle(t, string([]byte{'x', byte(i), 'x'}))
		for _, b := range edgeBytes {
			checkSettle(t, string([]byte{byte(i), b}))
			checkSettle(t, string([]byte{b, byte(i), 0x80, b}))
		}
	}
	for _, n := range []int{299, 300, 301} {
		checkSettle(t, strings.Repeat("\u4e16", n))
	}
}

func times(text string, n int) string {
	return strings.Repeat(text, n)
}

func manySnaps(n int) []impl.Snap {
	var out []impl.Snap
	for i := range n {
		out = append(out, impl.Snap{Left: fmt.Sprint("was ", i), Right: " there"})
	}
	return out
}

// brokenLines has one for each way in which a line can't be valid.
func brokenLines() []impl.Line {
	good := impl.Snap{Left: "a", Right: "b"}
	var out []impl.Line
	for _, bad := range []string{"\x01", "a\t", "\x7f", "\u0085", "\u0301", "\u200b", "\xff", "a\xe4\xb8", "\xed\xa0\x80", times("x", 301), times("\u4e16", 301)} {
		out = append(out, impl.Line{Left: bad}, impl.Line{Right: bad}, impl.Line{Left: "a", Right: bad}, impl.Line{Kill: bad})
		out = append(out, impl.Line{Undo: []impl.Snap{{Left: bad}}}, impl.Line{Undo: []impl.Snap{{Right: bad}}})
		out = append(out, impl.Line{Left: "a", Undo: []impl.Snap{good, {Left: bad}, good}}, impl.Line{Undo: []impl.Snap{good, {Right: bad}}})
	}
	halves := impl.Snap{Left: times("x", 150), Right: times("y", 151)}
	return append(out, impl.Line{Left: halves.Left, Right: halves.Right}, impl.Line{Undo: []impl.Snap{halves}}, impl.Line{Undo: manySnaps(51)}, impl.Line{Undo: make([]impl.Snap, 1000)})
}

// soundLines are at the edges of what is valid.
func soundLines() []impl.Line {
	return []impl.Line{
		{}, {Left: "a"}, {Right: "a"}, {Kill: "k"}, {Undo: []impl.Snap{{}}}, {Left: " ", Right: "  "}, {Left: "a\u0301", Right: "\u4e16\ufe0f"},
		{Left: times("x", 300)}, {Right: times("x", 300)}, {Left: times("x", 150), Right: times("\U0001f600", 150)}, {Kill: times("\u4e16", 300), Left: "a"},
		{Left: "a", Undo: manySnaps(50)}, {Undo: []impl.Snap{{Left: times("x", 299), Right: "y"}, {Right: times("a\u0301", 150)}}},
		{Left: times("x", 300), Kill: "k", Undo: manySnaps(50)}, {Left: times("x", 299), Kill: "k", Undo: manySnaps(49)}, {Left: "a", Right: "b", Kill: "\u25cc\u0301"},
	}
}

func TestLineOk(t *testing.T) {
	for i, l := range brokenLines() {
		if plainLineOk(l) || impl.LineOk(l) {
			t.Errorf("broken line %d is valid: %+v", i, l)
		}
	}
	for i, l := range soundLines() {
		if !plainLineOk(l) || !impl.LineOk(l) {
			t.Errorf("sound line %d is not valid: %+v", i, l)
		}
	}
}

func TestBrokenLinesStay(t *testing.T) {
	for i, l := range brokenLines() {
		for kind := -1; kind <= impl.KeyOther+1; kind++ {
			got, did := impl.Edit(l, impl.Key{Kind: kind, Runes: []int32{'x'}})
			if did != impl.DidNothing || !sameLine(got, l) {
				t.Errorf("broken line %d, kind %d: %+v, %d", i, kind, got, did)
			}
		}
		if got, ok := impl.SetText(l, "x"); ok || !sameLine(got, l) {
			t.Errorf("broken line %d: SetText gives %+v, %v", i, got, ok)
		}
	}
}

// lineAt makes a line of a text in which a bar is the cursor.
func lineAt(text string) impl.Line {
	left, right, _ := strings.Cut(text, "|")
	return impl.Line{Left: left, Right: right}
}

func TestEditByHand(t *testing.T) {
	for _, c := range []struct {
		kind     int
		from, to string
		did      int
	}{
		{impl.KeyBack, "ab|c", "a|c", 1}, {impl.KeyBack, "|c", "|c", 2}, {impl.KeyBack, "|", "|", 2}, {impl.KeyBack, "ae\u0301\u0302|", "a|", 1}, {impl.KeyBack, "\u25cc\u0301|x", "|x", 1},
		{impl.KeyDelete, "ab|cd", "ab|d", 1}, {impl.KeyDelete, "ab|", "ab|", 2}, {impl.KeyDelete, "|", "|", 8}, {impl.KeyDelete, "|e\u0301c", "|c", 1}, {impl.KeyDelete, "|c", "|", 1},
		{impl.KeyLeft, "ab|c", "a|bc", 1}, {impl.KeyLeft, "\u4e16\ufe0f|", "|\u4e16\ufe0f", 1}, {impl.KeyLeft, "|c", "|c", 2}, {impl.KeyLeft, "|", "|", 2},
		{impl.KeyRight, "a|bc", "ab|c", 1}, {impl.KeyRight, "a|e\u0301", "ae\u0301|", 1}, {impl.KeyRight, "a|", "a|", 2}, {impl.KeyRight, "|", "|", 2},
		{impl.KeyHome, "ab|c", "|abc", 1}, {impl.KeyHome, "|ab", "|ab", 0}, {impl.KeyHome, "|", "|", 0},
		{impl.KeyEnd, "|ab", "ab|", 1}, {impl.KeyEnd, "ab|", "ab|", 0}, {impl.KeyEnd, "|", "|", 0},
		{impl.KeyWordLeft, "one two|", "one |two", 1}, {impl.KeyWordLeft, "one two  |x", "one |two  x", 1}, {impl.KeyWordLeft, "one|", "|one", 1}, {impl.KeyWordLeft, "   |a", "|   a", 1},
		{impl.KeyWordLeft, " one|", " |one", 1}, {impl.KeyWordLeft, "|one", "|one", 2}, {impl.KeyWordLeft, "a \u0301|", "|a \u0301", 1}, {impl.KeyWordLeft, "a \u0301 |", "|a \u0301 ", 1}, {impl.KeyWordLeft, "a\u00a0b|", "|a\u00a0b", 1},
		{impl.KeyWordRight, "|one two", "one| two", 1}, {impl.KeyWordRight, "one|  two x", "one  two| x", 1}, {impl.KeyWordRight, "a|   ", "a   |", 1}, {impl.KeyWordRight, "a|", "a|", 2}, {impl.KeyWordRight, "| \u0301b c", " \u0301b| c", 1},
		{impl.KeySwap, "ab|cd", "acb|d", 1}, {impl.KeySwap, "a|b", "ba|", 1}, {impl.KeySwap, "abc|", "acb|", 1}, {impl.KeySwap, "ab|", "ba|", 1}, {impl.KeySwap, "a|", "a|", 2}, {impl.KeySwap, "|ab", "|ab", 2}, {impl.KeySwap, "|a", "|a", 2}, {impl.KeySwap, "|", "|", 2}, {impl.KeySwap, "aa|", "aa|", 1}, {impl.KeySwap, "a\u0301|\u4e16", "\u4e16a\u0301|", 1},
		{impl.KeyUndo, "a|b", "a|b", 2}, {impl.KeyYank, "a|b", "a|b", 2}, {impl.KeyRune, "a|b", "a|b", 0}, {impl.KeyPaste, "a|b", "a|b", 0},
		{impl.KeyEnter, "a|b", "a|b", 3}, {impl.KeyCancel, "a|b", "a|b", 4}, {impl.KeyUp, "a|b", "a|b", 5}, {impl.KeyDown, "a|b", "a|b", 6}, {impl.KeySearch, "a|b", "a|b", 7},
		{impl.KeyEscape, "a|b", "a|b", 0}, {impl.KeyOther, "a|b", "a|b", 0}, {0, "a|b", "a|b", 0}, {24, "a|b", "a|b", 0}, {-1, "a|b", "a|b", 0}, {math.MinInt, "a|b", "a|b", 0}, {math.MaxInt, "a|b", "a|b", 0},
	} {
		l := lineAt(c.from)
		got, did := impl.Edit(l, impl.Key{Kind: c.kind})
		if got.Left+"|"+got.Right != c.to || did != c.did || got.Kill != "" {
			t.Errorf("%s in %q: %q|%q, %d", kindName(c.kind), c.from, got.Left, got.Right, did)
		}
		if changed := did == impl.DidChange && !isMove(c.kind); changed != slices.Equal(got.Undo, []impl.Snap{{Left: l.Left, Right: l.Right}}) || !changed && len(got.Undo) > 0 {
			t.Errorf("%s in %q: Undo is %q", kindName(c.kind), c.from, got.Undo)
		}
	}
}

func kindName(kind int) string {
	if 0 <= kind && kind < len(kindNames) {
		return kindNames[kind]
	}
	return fmt.Sprint("kind ", kind)
}

func isMove(kind int) bool {
	return slices.Contains([]int{impl.KeyLeft, impl.KeyRight, impl.KeyHome, impl.KeyEnd, impl.KeyWordLeft, impl.KeyWordRight}, kind)
}

func TestKillsByHand(t *testing.T) {
	for _, c := range []struct {
		kind           int
		from, to, kill string
		did            int
	}{
		{impl.KeyKillEnd, "ab|cd", "ab|", "cd", 1}, {impl.KeyKillEnd, "ab|", "ab|", "old", 2}, {impl.KeyKillEnd, "|", "|", "old", 2}, {impl.KeyKillEnd, "|ab", "|", "ab", 1},
		{impl.KeyKillStart, "ab|cd", "|cd", "ab", 1}, {impl.KeyKillStart, "|cd", "|cd", "old", 2}, {impl.KeyKillStart, "ab|", "|", "ab", 1},
		{impl.KeyKillWord, "one two|x", "one |x", "two", 1}, {impl.KeyKillWord, "one two  |x", "one |x", "two  ", 1}, {impl.KeyKillWord, "  |x", "|x", "  ", 1}, {impl.KeyKillWord, "|x", "|x", "old", 2}, {impl.KeyKillWord, "a \u0301|", "|", "a \u0301", 1},
	} {
		l := lineAt(c.from)
		l.Kill = "old"
		got, did := impl.Edit(l, impl.Key{Kind: c.kind})
		if got.Left+"|"+got.Right != c.to || got.Kill != c.kill || did != c.did || len(got.Undo) != map[int]int{1: 1, 2: 0}[did] {
			t.Errorf("%s in %q: %+v, %d", kindName(c.kind), c.from, got, did)
		}
		if did != impl.DidChange {
			continue
		}
		back, did := impl.Edit(got, impl.Key{Kind: impl.KeyYank})
		if did != impl.DidChange || back.Left+back.Right != l.Left+l.Right || back.Kill != c.kill || len(back.Undo) != 2 {
			t.Errorf("%s in %q and yank: %+v, %d", kindName(c.kind), c.from, back, did)
		}
	}
}

func TestWritingByHand(t *testing.T) {
	for _, c := range []struct {
		from  string
		runes []int32
		to    string
	}{
		{"a|b", []int32{'x'}, "ax|b"}, {"|", []int32{'x', 'y'}, "xy|"}, {"a|b", []int32{0x301}, "a\u0301|b"}, {"a\u0301|b", []int32{0x302, 'c', 0x303}, "a\u0301\u0302c\u0303|b"},
		{"|b", []int32{0x301}, "\u25cc\u0301|b"}, {"|", []int32{0x301, 0x302}, "\u25cc\u0301\u0302|"}, {" |", []int32{0x301}, " \u0301|"}, {"\u25cc|", []int32{0x301}, "\u25cc\u0301|"},
		{"|", []int32{9, 10, 0x1f, 0x7f, 0x80, 0x9f, 0xd800, 0xdfff, -1, 0x110000}, times("\ufffd", 10) + "|"}, {"|", []int32{7, 0x301}, "\ufffd\u0301|"},
		{"|", []int32{math.MinInt32, math.MaxInt32, 0x10ffff, 0x20, 0xa0}, "\ufffd\ufffd\U0010ffff \u00a0|"}, {"x|", []int32{0x4e16}, "x\u4e16|"},
	} {
		for _, kind := range []int{impl.KeyRune, impl.KeyPaste} {
			l := lineAt(c.from)
			got, did := impl.Edit(l, impl.Key{Kind: kind, Runes: c.runes})
			if got.Left+"|"+got.Right != c.to || did != impl.DidChange || !slices.Equal(got.Undo, []impl.Snap{{Left: l.Left, Right: l.Right}}) {
				t.Errorf("%x in %q: %+v, %d", c.runes, c.from, got, did)
			}
		}
	}
}

func TestOtherKeysIgnoreRunes(t *testing.T) {
	for kind := impl.KeyEnter; kind <= impl.KeyOther; kind++ {
		l := impl.Line{Left: "one two", Right: " three", Kill: "k", Undo: manySnaps(3)}
		with, didWith := impl.Edit(l, impl.Key{Kind: kind, Runes: []int32{'x', 0x301}})
		without, did := impl.Edit(l, impl.Key{Kind: kind})
		if !sameLine(with, without) || didWith != did {
			t.Errorf("%s hangs on its Runes", kindName(kind))
		}
	}
}

// checkEdit asks for what the model gives, and for promises 4 and 5.
func checkEdit(t *testing.T, l impl.Line, k impl.Key) impl.Line {
	t.Helper()
	want, wantDid := plainEdit(cloneLine(l), k)
	got, did := impl.Edit(l, k)
	if !sameLine(got, want) || did != wantDid {
		t.Fatalf("%+v with %s %x: %+v, %d, not %+v, %d", l, kindName(k.Kind), k.Runes, got, did, want, wantDid)
	}
	if !plainLineOk(l) {
		return got
	}
	if !impl.LineOk(got) {
		t.Fatalf("%+v with %s %x is not valid any more: %+v", l, kindName(k.Kind), k.Runes, got)
	}
	switch {
	case did != impl.DidChange:
		if !sameLine(got, l) {
			t.Fatalf("%+v with %s changes it and says %d", l, kindName(k.Kind), did)
		}
	case isMove(k.Kind):
		if got.Left+got.Right != l.Left+l.Right || got.Kill != l.Kill || !slices.Equal(got.Undo, l.Undo) {
			t.Fatalf("%+v: %s changes more than the cursor: %+v", l, kindName(k.Kind), got)
		}
	case k.Kind != impl.KeyUndo:
		checkTakenBack(t, l, got, k)
	}
	return got
}

func checkTakenBack(t *testing.T, before, after impl.Line, k impl.Key) {
	t.Helper()
	back, did := impl.Edit(after, impl.Key{Kind: impl.KeyUndo})
	if did != impl.DidChange || back.Left != before.Left || back.Right != before.Right || back.Kill != after.Kill || !slices.Equal(back.Undo, after.Undo[:len(after.Undo)-1]) {
		t.Fatalf("%+v: undo behind %s: %+v, %d", before, kindName(k.Kind), back, did)
	}
	if !slices.Contains([]int{impl.KeyKillEnd, impl.KeyKillStart, impl.KeyKillWord}, k.Kind) {
		return
	}
	again, did := impl.Edit(after, impl.Key{Kind: impl.KeyYank})
	if did != impl.DidChange || again.Left+again.Right != before.Left+before.Right {
		t.Fatalf("%+v: yank behind %s: %+v, %d", before, kindName(k.Kind), again, did)
	}
}

func TestEveryKindInEdgeLines(t *testing.T) {
	pieces := []string{"a", " ", " \u0301", "\u4e16", "e\u0301\u0302"}
	lines := append(soundLines(), brokenLines()...)
	for _, a := range append(pieces, "") {
		for _, b := range append(pieces, "") {
			for _, c := range append(pieces, "") {
				lines = append(lines, impl.Line{Left: a + b, Right: c, Kill: c}, impl.Line{Left: a, Right: b + c, Undo: manySnaps(2)})
			}
		}
	}
	for _, l := range lines {
		for kind := -2; kind <= impl.KeyOther+2; kind++ {
			for _, runes := range [][]int32{nil, {'x'}, {0x301}, {7}, {' ', 0x302, 0x4e16}} {
				checkEdit(t, l, impl.Key{Kind: kind, Runes: runes})
			}
		}
	}
}

func TestMostRunes(t *testing.T) {
	for _, left := range []int{0, 1, 150, 298, 299, 300} {
		for _, right := range []int{0, 1, 150, 298, 299, 300} {
			l := impl.Line{Left: times("x", left), Right: times("\u4e16", right)}
			if left+right > 300 {
				continue
			}
			for _, n := range []int{0, 1, 2, 3, 149, 150, 151, 298, 299, 300, 301, 1000} {
				marks := slices.Repeat([]int32{0x301}, n)
				letters := slices.Repeat([]int32{'y'}, n)
				for _, kind := range []int{impl.KeyRune, impl.KeyPaste} {
					checkEdit(t, l, impl.Key{Kind: kind, Runes: letters})
					checkEdit(t, l, impl.Key{Kind: kind, Runes: marks})
				}
				l.Kill = times("z", n)
				checkEdit(t, l, impl.Key{Kind: impl.KeyYank})
			}
		}
	}
}

func TestMostRunesByHand(t *testing.T) {
	for _, c := range []struct {
		l    impl.Line
		k    impl.Key
		did  int
		left int
	}{
		{impl.Line{Left: times("x", 299)}, impl.Key{Kind: impl.KeyRune, Runes: []int32{'y'}}, 1, 300},
		{impl.Line{Left: times("x", 300)}, impl.Key{Kind: impl.KeyRune, Runes: []int32{'y'}}, 2, 300},
		{impl.Line{Left: times("x", 300)}, impl.Key{Kind: impl.KeyRune, Runes: []int32{0x301}}, 2, 300},
		{impl.Line{Left: times("x", 200), Right: times("x", 99)}, impl.Key{Kind: impl.KeyPaste, Runes: []int32{'y'}}, 1, 201},
		{impl.Line{Left: times("x", 200), Right: times("x", 99)}, impl.Key{Kind: impl.KeyPaste, Runes: []int32{'y', 'z'}}, 2, 200},
		{impl.Line{Right: times("x", 298)}, impl.Key{Kind: impl.KeyRune, Runes: []int32{0x301}}, 1, 2},
		{impl.Line{Right: times("x", 299)}, impl.Key{Kind: impl.KeyRune, Runes: []int32{0x301}}, 2, 0},
		{impl.Line{Left: times("x", 100), Kill: times("k", 200)}, impl.Key{Kind: impl.KeyYank}, 1, 300},
		{impl.Line{Left: times("x", 101), Kill: times("k", 200)}, impl.Key{Kind: impl.KeyYank}, 2, 101},
		{impl.Line{Kill: times("k", 300)}, impl.Key{Kind: impl.KeyYank}, 1, 300},
		{impl.Line{Right: "a", Kill: times("k", 300)}, impl.Key{Kind: impl.KeyYank}, 2, 0},
		{impl.Line{}, impl.Key{Kind: impl.KeyPaste, Runes: slices.Repeat([]int32{-1}, 300)}, 1, 300},
		{impl.Line{}, impl.Key{Kind: impl.KeyPaste, Runes: slices.Repeat([]int32{'x'}, 301)}, 2, 0},
		{impl.Line{}, impl.Key{Kind: impl.KeyPaste, Runes: slices.Repeat([]int32{'x'}, 1000000)}, 2, 0},
	} {
		got, did := impl.Edit(c.l, c.k)
		if did != c.did || runesIn(got.Left) != c.left || got.Right != c.l.Right || len(got.Undo) != map[int]int{1: 1, 2: 0}[did] {
			t.Errorf("%+v with %s of %d: %+v, %d", c.l, kindName(c.k.Kind), len(c.k.Runes), got, did)
		}
	}
}

func TestMostUndo(t *testing.T) {
	l := impl.Line{}
	for i := range impl.MaxUndo + 7 {
		l = checkEdit(t, l, impl.Key{Kind: impl.KeyRune, Runes: []int32{'z'}})
		if want := min(i+1, impl.MaxUndo); len(l.Undo) != want || runesIn(l.Undo[0].Left) != i+1-want {
			t.Fatalf("after %d changes: %d in Undo", i+1, len(l.Undo))
		}
	}
	for i := range impl.MaxUndo {
		l = checkEdit(t, l, impl.Key{Kind: impl.KeyUndo})
		if runesIn(l.Left) != impl.MaxUndo+6-i {
			t.Fatalf("after %d undos: %q", i+1, l.Left)
		}
	}
	if got, did := impl.Edit(l, impl.Key{Kind: impl.KeyUndo}); did != impl.DidBell || got.Left != times("z", 7) {
		t.Errorf("undo without a Snap: %+v, %d", got, did)
	}
}

func TestUndoFullAndRefused(t *testing.T) {
	full := impl.Line{Left: times("x", 300), Kill: "k", Undo: manySnaps(50)}
	for _, k := range []impl.Key{{Kind: impl.KeyRune, Runes: []int32{'x'}}, {Kind: impl.KeyYank}, {Kind: impl.KeyDelete}, {Kind: impl.KeyRight}, {Kind: impl.KeyEnd}, {Kind: impl.KeyKillEnd}, {Kind: impl.KeyPaste}} {
		if got := checkEdit(t, full, k); !sameLine(got, full) {
			t.Errorf("%s changes a full line", kindName(k.Kind))
		}
	}
	got := checkEdit(t, full, impl.Key{Kind: impl.KeyBack})
	if want := append(manySnaps(50)[1:], impl.Snap{Left: full.Left}); !slices.Equal(got.Undo, want) {
		t.Errorf("Undo is %q", got.Undo)
	}
}

func TestSetText(t *testing.T) {
	for _, text := range []string{"", "new", "a\u0301", " ", "\u25cc\u0301", "\ufffd", times("\u4e16", 300), "\x01", "\t", "\u0301a", "a\xff", "\u0085", times("x", 301)} {
		for i, l := range soundLines() {
			got, ok := impl.SetText(l, text)
			want, wantOk := l, false
			if plainSettled(text) && runesIn(text) <= 300 {
				want, _ = plainChanged(l, []string{text}, nil)
				wantOk = true
			}
			if ok != wantOk || !sameLine(got, want) || !impl.LineOk(got) {
				t.Errorf("%q in line %d: %+v, %v", text, i, got, ok)
			}
			if ok {
				checkTakenBack(t, l, got, impl.Key{})
			}
		}
	}
	same, ok := impl.SetText(impl.Line{Left: "a"}, "a")
	if !ok || !sameLine(same, impl.Line{Left: "a", Undo: []impl.Snap{{Left: "a"}}}) {
		t.Errorf("the same text again: %+v, %v", same, ok)
	}
}

func randomKey(random *rand.Rand) impl.Key {
	if random.IntN(3) == 0 {
		return impl.Key{Kind: random.IntN(impl.KeyOther+3) - 1}
	}
	pool := []int32{'a', 'b', ' ', ' ', 0x301, 0x302, 0x4e16, 0x1f600, 7, -1, 0xd800, 0x25cc}
	runes := make([]int32, 1+random.IntN(4)*random.IntN(4))
	for i := range runes {
		runes[i] = pool[random.IntN(len(pool))]
	}
	return impl.Key{Kind: impl.KeyRune + random.IntN(2), Runes: runes}
}

func TestLongWalks(t *testing.T) {
	for seed := range uint64(20) {
		random := rand.New(rand.NewPCG(41, seed))
		l := impl.Line{}
		if seed%2 == 1 {
			l = impl.Line{Left: times("word ", 30), Right: times(" \u4e16\u0301", 49)}
		}
		for range 400 {
			l = checkEdit(t, l, randomKey(random))
		}
	}
}

func TestLinesMemory(t *testing.T) {
	lines := append(soundLines(), impl.Line{Undo: manySnaps(51)}, impl.Line{Left: "\x01", Undo: manySnaps(3)})
	for _, l := range lines {
		l.Undo = roomy(l.Undo)
		for kind := -1; kind <= impl.KeyOther+1; kind++ {
			for _, runes := range [][]int32{nil, {'x'}, {0x301, -1}} {
				k := impl.Key{Kind: kind, Runes: roomy(runes)}
				checkMemory(t, "Edit", []any{l, k}, func() []any {
					next, _ := impl.Edit(l, k)
					return []any{next}
				})
			}
		}
		for _, text := range []string{"new", "\x01", times("x", 301)} {
			checkMemory(t, "SetText", []any{l}, func() []any {
				next, _ := impl.SetText(l, text)
				return []any{next}
			})
		}
		checkMemory(t, "LineOk", []any{l}, func() []any { return []any{impl.LineOk(l)} })
	}
}
