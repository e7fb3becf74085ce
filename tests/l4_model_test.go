package tests

import (
	"slices"
	"strings"

	"loop.example/s01474/impl"
)

func plainText(runes []int32) string {
	var out []byte
	for _, r := range runes {
		out = append(out, encode(r, shortest(r))...)
	}
	return string(out)
}

func plainSettle(text string) string {
	var out []string
	for _, c := range plainClusters(plainClean([]byte(text))) {
		out = append(out, plainText(c.Runes))
	}
	return strings.Join(out, "")
}

// settledTexts keeps what was asked: a line's Undo brings the same texts many times.
var settledTexts = map[string]bool{}

func plainSettled(text string) bool {
	ok, asked := settledTexts[text]
	if !asked {
		ok = plainSettle(text) == text
		settledTexts[text] = ok
	}
	return ok
}

// runesIn counts the bytes of valid texts that begin a rune.
func runesIn(texts ...string) int {
	n := 0
	for _, text := range texts {
		for _, b := range []byte(text) {
			if b&0xc0 != 0x80 {
				n++
			}
		}
	}
	return n
}

func plainLineOk(l impl.Line) bool {
	ok := plainSettled(l.Kill) && runesIn(l.Kill) <= 300 && len(l.Undo) <= 50
	for _, s := range append([]impl.Snap{{Left: l.Left, Right: l.Right}}, l.Undo...) {
		ok = ok && plainSettled(s.Left) && plainSettled(s.Right) && runesIn(s.Left, s.Right) <= 300
	}
	return ok
}

// piecesOf cuts a settled text into the texts of its clusters.
func piecesOf(text string) []string {
	var out []string
	for _, r := range plainDecode([]byte(text)) {
		if plainWidth(r) > 0 {
			out = append(out, "")
		}
		out[len(out)-1] += plainText([]int32{r})
	}
	return out
}

// plainWord is how many pieces a way over a word takes, from the front of them.
func plainWord(pieces []string) int {
	spaces := 0
	for spaces < len(pieces) && pieces[spaces] == " " {
		spaces++
	}
	if end := slices.Index(pieces[spaces:], " "); end >= 0 {
		return spaces + end
	}
	return len(pieces)
}

func sameLine(a, b impl.Line) bool {
	return a.Left == b.Left && a.Right == b.Right && a.Kill == b.Kill && slices.Equal(a.Undo, b.Undo)
}

func cloneLine(l impl.Line) impl.Line {
	l.Undo = slices.Clone(l.Undo)
	return l
}

// plainChanged is a line after a change of its text.
func plainChanged(l impl.Line, left, right []string) (impl.Line, int) {
	out := cloneLine(l)
	out.Undo = append(out.Undo, impl.Snap{Left: l.Left, Right: l.Right})
	if len(out.Undo) > 50 {
		out.Undo = out.Undo[1:]
	}
	out.Left, out.Right = strings.Join(left, ""), strings.Join(right, "")
	return out, impl.DidChange
}

func plainMoved(l impl.Line, to int, nowhere int) (impl.Line, int) {
	left, right := piecesOf(l.Left), piecesOf(l.Right)
	all := slices.Concat(left, right)
	if to == len(left) || to < 0 || to > len(all) {
		return l, nowhere
	}
	l.Left, l.Right = strings.Join(all[:to], ""), strings.Join(all[to:], "")
	return l, impl.DidChange
}

func plainPut(l impl.Line, runes []int32) (impl.Line, int) {
	clean := slices.Clone(runes)
	for i, r := range clean {
		if !canBeShown(r) {
			clean[i] = 0xfffd
		}
	}
	left := plainSettle(l.Left + plainText(clean))
	if runesIn(left, l.Right) > 300 {
		return l, impl.DidBell
	}
	return plainChanged(l, []string{left}, []string{l.Right})
}

func plainKilled(l impl.Line, killed, left, right []string) (impl.Line, int) {
	if len(killed) == 0 {
		return l, impl.DidBell
	}
	l.Kill = strings.Join(killed, "")
	return plainChanged(l, left, right)
}

func plainSwap(l impl.Line) (impl.Line, int) {
	left, right := piecesOf(l.Left), piecesOf(l.Right)
	n := len(left)
	switch {
	case n >= 1 && len(right) >= 1:
		return plainChanged(l, slices.Concat(left[:n-1], right[:1], left[n-1:]), right[1:])
	case n >= 2 && len(right) == 0:
		return plainChanged(l, slices.Concat(left[:n-2], left[n-1:], left[n-2:n-1]), nil)
	}
	return l, impl.DidBell
}

// plainEdit is chapter 4 on lists of texts.
func plainEdit(l impl.Line, k impl.Key) (impl.Line, int) {
	if !plainLineOk(l) {
		return l, impl.DidNothing
	}
	left, right := piecesOf(l.Left), piecesOf(l.Right)
	turned := slices.Clone(left)
	slices.Reverse(turned)
	at, word := len(left), len(left)-plainWord(turned)
	switch k.Kind {
	case impl.KeyRune, impl.KeyPaste:
		if len(k.Runes) == 0 {
			return l, impl.DidNothing
		}
		return plainPut(l, k.Runes)
	case impl.KeyYank:
		if l.Kill == "" {
			return l, impl.DidBell
		}
		return plainPut(l, plainDecode([]byte(l.Kill)))
	case impl.KeyBack:
		if at == 0 {
			return l, impl.DidBell
		}
		return plainChanged(l, left[:at-1], right)
	case impl.KeyDelete:
		if l.Left+l.Right == "" {
			return l, impl.DidEnd
		}
		if len(right) == 0 {
			return l, impl.DidBell
		}
		return plainChanged(l, left, right[1:])
	case impl.KeyLeft:
		return plainMoved(l, at-1, impl.DidBell)
	case impl.KeyRight:
		return plainMoved(l, at+1, impl.DidBell)
	case impl.KeyHome:
		return plainMoved(l, 0, impl.DidNothing)
	case impl.KeyEnd:
		return plainMoved(l, at+len(right), impl.DidNothing)
	case impl.KeyWordLeft:
		return plainMoved(l, word, impl.DidBell)
	case impl.KeyWordRight:
		return plainMoved(l, at+plainWord(right), impl.DidBell)
	case impl.KeyKillEnd:
		return plainKilled(l, right, left, nil)
	case impl.KeyKillStart:
		return plainKilled(l, left, nil, right)
	case impl.KeyKillWord:
		return plainKilled(l, left[word:], left[:word], right)
	case impl.KeySwap:
		return plainSwap(l)
	case impl.KeyUndo:
		if len(l.Undo) == 0 {
			return l, impl.DidBell
		}
		last := l.Undo[len(l.Undo)-1]
		return impl.Line{Left: last.Left, Right: last.Right, Kill: l.Kill, Undo: l.Undo[:len(l.Undo)-1]}, impl.DidChange
	}
	answers := map[int]int{impl.KeyEnter: impl.DidEnter, impl.KeyCancel: impl.DidCancel, impl.KeyUp: impl.DidUp, impl.KeyDown: impl.DidDown, impl.KeySearch: impl.DidSearch}
	return l, answers[k.Kind]
}
