package tests

import (
	"bytes"
	"fmt"
	"math/rand/v2"
	"slices"
	"strings"
	"testing"

	"loop.example/s01474/impl"
)

var kindNames = []string{"none", "rune", "paste", "enter", "back", "delete", "left", "right", "home", "end", "up", "down", "kill-end", "kill-start", "kill-word", "yank", "swap", "undo", "word-left", "word-right", "search", "cancel", "escape", "other"}

// told writes keys down: their names, and behind rune and paste the runes.
func told(keys []impl.Key) string {
	var out []string
	for _, k := range keys {
		name := fmt.Sprint(k.Kind)
		if 0 <= k.Kind && k.Kind < len(kindNames) {
			name = kindNames[k.Kind]
		}
		if k.Kind == impl.KeyRune || k.Kind == impl.KeyPaste || len(k.Runes) > 0 {
			name += fmt.Sprintf("%x", k.Runes)
		}
		out = append(out, name)
	}
	return strings.Join(out, " ")
}

func toldReading(d impl.KeyReader, keys []impl.Key) string {
	return fmt.Sprintf("%s; held %q, paste %v", told(keys), d.Hold, d.Paste)
}

func TestKeysByHand(t *testing.T) {
	for _, c := range []struct{ in, keys, hold string }{
		{"", "", ""},
		{"a~ ", "rune[61] rune[7e] rune[20]", ""},
		{"\t", "rune[20]", ""},
		{"\r\n", "enter enter", ""},
		{"\x08\x7f", "back back", ""},
		{"\x04\x02\x06\x01\x05\x10\x0e", "delete left right home end up down", ""},
		{"\x0b\x15\x17\x19\x14\x1f\x12\x03", "kill-end kill-start kill-word yank swap undo search cancel", ""},
		{"\x00\x07\x0c\x0f\x11\x13\x16\x18\x1a\x1c\x1d\x1e", strings.TrimSpace(strings.Repeat("other ", 12)), ""},
		// ESC
		{"\x1b", "", "\x1b"},
		{"\x1b\x1b", "escape", "\x1b"},
		{"\x1b\x1b\x1b", "escape escape", "\x1b"},
		{"\x1b\x1b[A", "escape up", ""},
		{"\x1b\x1bb\x1bf", "escape word-left word-right", ""},
		{"\x1bB\x1bF\x1bo\x1bx", "other other other other", ""},
		{"\x1b\r\x1b\x03\x1b\x7f", "other other other", ""},
		{"\x1b\xc3\xa9", "other rune[fffd]", ""},
		{"\x1bOA\x1bOB\x1bOC\x1bOD\x1bOH\x1bOF", "up down right left home end", ""},
		{"\x1bO", "", "\x1bO"},
		{"\x1bOa\x1bO3~\x1bO[A", "other other rune[7e] other rune[41]", ""},
		{"\x1bO\x1bOA", "other rune[4f] rune[41]", ""},
		{"\x1bO\xc3\xa9", "other rune[fffd]", ""},
		// sequences
		{"\x1b[", "", "\x1b["},
		{"\x1b[A\x1b[B\x1b[C\x1b[D\x1b[H\x1b[F", "up down right left home end", ""},
		{"\x1b[E\x1b[G\x1b[a\x1b[@\x1b[~\x1b[[\x1b[O", "other other other other other other other", ""},
		{"\x1b[3~\x1b[1~\x1b[7~\x1b[4~\x1b[8~", "delete home home end end", ""},
		{"\x1b[0~\x1b[2~\x1b[5~\x1b[6~\x1b[9~", "other other other other other", ""},
		{"\x1b[03~\x1b[33~\x1b[3;~\x1b[?3~\x1b[3A\x1b[1A\x1b[1;5C", "other other other other other other other", ""},
		{"\x1b[201~", "other", ""},
		{"\x1b[2000~\x1b[0200~\x1b[200A\x1b[20~\x1b[2~", "other other other other other", ""},
		{"\x1b[0123456789:;<=>?", "", "\x1b[0123456789:;<=>?"},
		{"\x1b[0123456789:;<=>?~", "other", ""},
		{"\x1b[3\x7f", "other back", ""},
		{"\x1b[3/", "other rune[2f]", ""},
		{"\x1b[ ", "other rune[20]", ""},
		{"\x1b[\t", "other rune[20]", ""},
		{"\x1b[3\x1b[A", "other up", ""},
		{"\x1b[3\x1b", "other", "\x1b"},
		{"\x1b[\x80", "other rune[fffd]", ""},
		{"\x1b[\xc3\xa9", "other rune[e9]", ""},
		{"\x1b[\xc3", "other", "\xc3"},
		// pastes
		{"\x1b[200~", "", ""},
		{"\x1b[200~\x1b[201~", "paste[]", ""},
		{"\x1b[200~ab\x1b[201~c", "paste[61 62] rune[63]", ""},
		{"\x1b[200~\t\r\n\x7f\xc2\x85\xe4\xb8\x96\xe4\x1b[201~\x1b", "paste[20 fffd fffd fffd fffd 4e16 fffd]", "\x1b"},
		{"\x1b[200~\x1b\x1b[200~\x1b[A\x1b[201~", "paste[fffd fffd 5b 32 30 30 7e fffd 5b 41]", ""},
		{"\x1b[200~\x1b[201\x1b[201~", "paste[fffd 5b 32 30 31]", ""},
		{"\x1b[200~\x1b\x1b[201~", "paste[fffd]", ""},
		{"\x1b[200~a\x1b[201~\x1b[200~b\x1b[201~\x1b[201~", "paste[61] paste[62] other", ""},
		{"\x1b[200~a\x1b[201~\x1b[200~b", "paste[61]", "b"},
		{"\x1b[200~a\x1b[20", "", "a\x1b[20"},
		{"\x1b[200~\xe4\xb8", "", "\xe4\xb8"},
		// runes
		{"\xc3\xa9\xe4\xb8\x96\xf0\x9f\x98\x80", "rune[e9] rune[4e16] rune[1f600]", ""},
		{"\xcc\x81\xef\xbf\xbd", "rune[301] rune[fffd]", ""},
		{"\xc2\x80\xc2\x9f\xc2\xa0", "rune[fffd] rune[fffd] rune[a0]", ""},
		{"\xc2", "", "\xc2"},
		{"\xe4\xb8", "", "\xe4\xb8"},
		{"\xf0\x9f\x98", "", "\xf0\x9f\x98"},
		{"\x80\xbf\xc0\xc1\xf5\xff", "rune[fffd] rune[fffd] rune[fffd] rune[fffd] rune[fffd] rune[fffd]", ""},
		{"\xe0\x80\xed\xa0\xf4\x90", "rune[fffd] rune[fffd] rune[fffd] rune[fffd] rune[fffd] rune[fffd]", ""},
		{"\xe4\xb8a", "rune[fffd] rune[fffd] rune[61]", ""},
		{"\xe4\xb8\r", "rune[fffd] rune[fffd] enter", ""},
		{"\xe4\xb8\x1b", "rune[fffd] rune[fffd]", "\x1b"},
		{"\xf0\x9f\x98\xe4\xb8", "rune[fffd] rune[fffd] rune[fffd]", "\xe4\xb8"},
	} {
		d, keys := impl.ReadKeys(impl.KeyReader{}, []byte(c.in))
		if got := told(keys); got != c.keys || string(d.Hold) != c.hold {
			t.Errorf("%q: %s, not %s; held %q, not %q", c.in, got, c.keys, d.Hold, c.hold)
		}
	}
}

func TestPasteIsKept(t *testing.T) {
	for _, c := range []struct {
		in     string
		before bool
		after  bool
	}{
		{"", false, false}, {"", true, true}, {"a\x1b[20", true, true}, {"\x1b[200~", false, true}, {"\x1b[200~", true, true},
		{"\x1b[201~", true, false}, {"\x1b[201~", false, false}, {"\x1b[201~\x1b[200~", true, true}, {"\x1b[200", false, false}, {"\x1bO200~", false, false},
	} {
		if d, _ := impl.ReadKeys(impl.KeyReader{Paste: c.before}, []byte(c.in)); d.Paste != c.after {
			t.Errorf("%q with Paste %v: %v", c.in, c.before, d.Paste)
		}
	}
}

// plainByte is the document's list of the keys that are one byte.
func plainByte(b byte) string {
	switch b {
	case 13, 10:
		return "enter"
	case 8, 127:
		return "back"
	}
	names := map[byte]string{4: "delete", 2: "left", 6: "right", 1: "home", 5: "end", 16: "up", 14: "down", 11: "kill-end", 21: "kill-start", 23: "kill-word", 25: "yank", 20: "swap", 31: "undo", 18: "search", 3: "cancel"}
	if name, ok := names[b]; ok {
		return name
	}
	return "other"
}

func plainLetter(b byte) string {
	names := map[byte]string{'A': "up", 'B': "down", 'C': "right", 'D': "left", 'H': "home", 'F': "end"}
	if name, ok := names[b]; ok {
		return name
	}
	return "other"
}

func kindNamed(name string) []impl.Key {
	return []impl.Key{{Kind: slices.Index(kindNames, name)}}
}

// beginsRune says whether some bytes behind b would make all of them one rune.
func beginsRune(b []byte) bool {
	for n := len(b) + 1; n <= 4; n++ {
		for _, low := range []byte{0x80, 0x90, 0xa0} {
			whole := append(slices.Clone(b), bytes.Repeat([]byte{low}, n-len(b))...)
			if _, size := decode(whole); size == n {
				return true
			}
		}
	}
	return false
}

// plainFront reads what stands at the front: its keys, how many bytes it takes,
// 0 when it is not finished, and whether a paste begins behind it.
func plainFront(b []byte) ([]impl.Key, int, bool) {
	switch {
	case b[0] == 27:
		return plainEscape(b)
	case b[0] == 9:
		return []impl.Key{{Kind: impl.KeyRune, Runes: []int32{0x20}}}, 1, false
	case b[0] < 32 || b[0] == 127:
		return kindNamed(plainByte(b[0])), 1, false
	case beginsRune(b):
		return nil, 0, false
	}
	r, n := decode(b)
	if n == 0 {
		r, n = 0xfffd, 1
	}
	if 0x80 <= r && r <= 0x9f {
		r = 0xfffd
	}
	return []impl.Key{{Kind: impl.KeyRune, Runes: []int32{r}}}, n, false
}

func plainEscape(b []byte) ([]impl.Key, int, bool) {
	if len(b) == 1 || len(b) == 2 && b[1] == 'O' {
		return nil, 0, false
	}
	switch b[1] {
	case 27:
		return kindNamed("escape"), 1, false
	case 'b':
		return kindNamed("word-left"), 2, false
	case 'f':
		return kindNamed("word-right"), 2, false
	case 'O':
		return kindNamed(plainLetter(b[2])), 3, false
	case '[':
		return plainSequence(b)
	}
	return kindNamed("other"), 2, false
}

func plainSequence(b []byte) ([]impl.Key, int, bool) {
	n := 2
	for n < len(b) && 48 <= b[n] && b[n] <= 63 {
		n++
	}
	if n == len(b) {
		return nil, 0, false
	}
	between, last := string(b[2:n]), b[n]
	switch {
	case last < 64 || last > 126:
		return kindNamed("other"), n, false
	case between == "":
		return kindNamed(plainLetter(last)), n + 1, false
	case last != '~':
		return kindNamed("other"), n + 1, false
	}
	switch between {
	case "3":
		return kindNamed("delete"), n + 1, false
	case "1", "7":
		return kindNamed("home"), n + 1, false
	case "4", "8":
		return kindNamed("end"), n + 1, false
	case "200":
		return nil, n + 1, true
	}
	return kindNamed("other"), n + 1, false
}

// plainKeys is chapter 3 read off the front of all bytes.
func plainKeys(d impl.KeyReader, b []byte) (impl.KeyReader, []impl.Key) {
	all := slices.Concat(d.Hold, b)
	paste := d.Paste
	var keys []impl.Key
	for len(all) > 0 {
		if paste {
			before, behind, found := bytes.Cut(all, []byte("\x1b[201~"))
			if !found {
				break
			}
			keys = append(keys, impl.Key{Kind: impl.KeyPaste, Runes: plainClean(before)})
			all, paste = behind, false
			continue
		}
		some, n, begins := plainFront(all)
		if n == 0 {
			break
		}
		keys = append(keys, some...)
		all, paste = all[n:], begins
	}
	return impl.KeyReader{Hold: all, Paste: paste}, keys
}

// checkKeys asks for the keys of the model, whole and cut at every place.
func checkKeys(t *testing.T, d impl.KeyReader, b []byte) {
	t.Helper()
	want := toldReading(plainKeys(d, b))
	if got := toldReading(impl.ReadKeys(d, b)); got != want {
		t.Fatalf("%+v, %q: %s, not %s", d, b, got, want)
	}
	for i := range len(b) + 1 {
		middle, first := impl.ReadKeys(d, b[:i])
		end, second := impl.ReadKeys(middle, b[i:])
		if got := toldReading(end, append(first, second...)); got != want {
			t.Fatalf("%+v, %q cut at %d: %s, not %s", d, b, i, got, want)
		}
	}
	var keys []impl.Key
	one := d
	for i := range b {
		next, some := impl.ReadKeys(one, b[i:i+1])
		one, keys = next, append(keys, some...)
	}
	if len(b) > 0 && toldReading(one, keys) != want {
		t.Fatalf("%+v, %q byte by byte: %s, not %s", d, b, toldReading(one, keys), want)
	}
	checkTick(t, one)
}

// plainTick is chapter 3's Tick.
func plainTick(d impl.KeyReader) (impl.KeyReader, []impl.Key) {
	var keys []impl.Key
	switch {
	case d.Paste || len(d.Hold) == 0:
		return d, nil
	case d.Hold[0] != 27:
		for range d.Hold {
			keys = append(keys, impl.Key{Kind: impl.KeyRune, Runes: []int32{0xfffd}})
		}
	case len(d.Hold) == 1:
		keys = kindNamed("escape")
	default:
		keys = kindNamed("other")
	}
	return impl.KeyReader{}, keys
}

func checkTick(t *testing.T, d impl.KeyReader) {
	t.Helper()
	want := toldReading(plainTick(d))
	got, some := impl.Tick(d)
	if toldReading(got, some) != want {
		t.Fatalf("Tick of %+v: %s, not %s", d, toldReading(got, some), want)
	}
	if !got.Paste && len(got.Hold) > 0 {
		t.Fatalf("Tick of %+v leaves %q", d, got.Hold)
	}
}

func TestTickByHand(t *testing.T) {
	for _, c := range []struct {
		hold  string
		paste bool
		want  string
	}{
		{"", false, `; held "", paste false`},
		{"", true, `; held "", paste true`},
		{"\x1b", false, `escape; held "", paste false`},
		{"\x1b", true, `; held "\x1b", paste true`},
		{"\x1bO", false, `other; held "", paste false`},
		{"\x1b[", false, `other; held "", paste false`},
		{"\x1b[200", false, `other; held "", paste false`},
		{"\x1b[A", false, `other; held "", paste false`},
		{"\x1b\x1b", false, `other; held "", paste false`},
		{"\xc3", false, `rune[fffd]; held "", paste false`},
		{"\xf0\x9f\x98", false, `rune[fffd] rune[fffd] rune[fffd]; held "", paste false`},
		{"a\x1b", false, `rune[fffd] rune[fffd]; held "", paste false`},
		{"a\x1b[201~", true, `; held "a\x1b[201~", paste true`},
	} {
		d := impl.KeyReader{Hold: []byte(c.hold), Paste: c.paste}
		if got := toldReading(impl.Tick(d)); got != c.want {
			t.Errorf("Tick of %q, paste %v: %s, not %s", c.hold, c.paste, got, c.want)
		}
		checkTick(t, d)
	}
}

func TestKeysOfEveryByte(t *testing.T) {
	for i := range 256 {
		b := byte(i)
		for _, front := range []string{"", "\x1b", "\x1bO", "\x1b[", "\x1b[3", "\x1b[200", "\x1b[;?9", "\x1b[0123456789:;<=>?", "\xc3", "\xe4\xb8", "\xf0\x9f\x98", "\xe0", "\xed", "\xf0", "\xf4"} {
			for _, behind := range []string{"", "A", "~", "\x1b", "\x80"} {
				whole := slices.Concat([]byte(front), []byte{b}, []byte(behind))
				checkKeys(t, impl.KeyReader{}, whole)
				checkKeys(t, impl.KeyReader{Hold: []byte(front)}, whole[len(front):])
			}
		}
	}
}

func TestKeysOfNumbers(t *testing.T) {
	for n := range 1000 {
		for _, last := range "~A@`" {
			checkKeys(t, impl.KeyReader{}, fmt.Appendf(nil, "\x1b[%d%cx", n, last))
		}
	}
}

func TestKeysOfLongSequences(t *testing.T) {
	for _, n := range []int{30, 31, 32, 33, 300} {
		digits := strings.Repeat("3", n)
		for _, last := range []string{"", "~", "A", "\x1b", "\x7f", "\xff"} {
			checkKeys(t, impl.KeyReader{}, []byte("\x1b["+digits+last))
		}
	}
}

func TestKeysInPastes(t *testing.T) {
	for _, inside := range []string{"", "a", "\x1b", "\x1b[", "\x1b[20", "\x1b[201", "\x1b[201\x1b[201", "\x1b[200~", "\x1b[202~", "\r\n\t\x7f", "\xe4\xb8", "\xc2\x85\xff", "\x1bO\x1b[A", strings.Repeat("long ", 60)} {
		for _, behind := range []string{"", "\x1b[201~", "\x1b[201~\x1b[201~", "\x1b[201~\x1b[200~x\x1b[201~y"} {
			checkKeys(t, impl.KeyReader{}, []byte("x\x1b[200~"+inside+behind))
			checkKeys(t, impl.KeyReader{Paste: true}, []byte(inside+behind))
			checkKeys(t, impl.KeyReader{Paste: true, Hold: []byte(inside)}, []byte(behind))
		}
	}
}

// keyPieces are what random streams of keys are put together from.
var keyPieces = []string{"a", "\u00e9", "\u4e16", "\U0001f600", "\u0301", "\u0085", "\t", "\r", "\x01", "\x1f", "\x7f", "\x1b", "\x1b", "\x1b[", "O", "b", "[", "A", "H", "3", "~", "200", "201", "\x1b[200~", "\x1b[201~", "\x1b[A", "\xff", "\xe4", "\xb8", "\xf0\x9f", "?", "/", "@"}

func randomKeys(random *rand.Rand, most int) []byte {
	var out []byte
	for range random.IntN(most) {
		out = append(out, keyPieces[random.IntN(len(keyPieces))]...)
	}
	return out
}

func TestKeysFromAnyReader(t *testing.T) {
	random := rand.New(rand.NewPCG(31, 1))
	for range 6000 {
		d := impl.KeyReader{Hold: randomKeys(random, 6), Paste: random.IntN(3) == 0}
		checkTick(t, d)
		checkKeys(t, d, randomKeys(random, 12))
	}
}

func TestKeysMemory(t *testing.T) {
	stream := "a\xc3\xa9\t\x1b[A\x1b[200~p\r\x1b[201~\xffq"
	for _, hold := range []string{"", "\x1b", "\x1b[3", "abc", "\xe4\xb8", "p\x1b[201", "p\x1b[201~q\x1b"} {
		for _, in := range []string{"", stream, stream + "\x1b[5", stream + "\xe4\xb8", stream + "\x1b[200~rest"} {
			for _, paste := range []bool{false, true} {
				d := impl.KeyReader{Hold: roomy([]byte(hold)), Paste: paste}
				b := roomy([]byte(in))
				checkMemory(t, "ReadKeys", []any{d, b}, func() []any {
					next, keys := impl.ReadKeys(d, b)
					return []any{next, keys}
				})
				checkMemory(t, "Tick", []any{d}, func() []any {
					next, keys := impl.Tick(d)
					return []any{next, keys}
				})
			}
		}
	}
}
