package tests

import (
	"math"
	"math/rand/v2"
	"slices"
	"strings"
	"testing"

	"loop.example/s01474/impl"
)

var narrowest = [][2]int32{{0x300, 0x36f}, {0x483, 0x489}, {0x591, 0x5bd}, {0x200b, 0x200f}, {0x20d0, 0x20f0}, {0xfe00, 0xfe0f}, {0xfe20, 0xfe2f}}

var widest = [][2]int32{{0x1100, 0x115f}, {0x2e80, 0x303e}, {0x3041, 0x4dbf}, {0x4e00, 0xa4cf}, {0xac00, 0xd7a3}, {0xf900, 0xfaff}, {0xfe30, 0xfe6f}, {0xff00, 0xff60}, {0xffe0, 0xffe6}, {0x1f300, 0x1f64f}, {0x1f900, 0x1f9ff}, {0x20000, 0x3fffd}}

func oneOf(classes [][2]int32, r int32) bool {
	for _, c := range classes {
		if c[0] <= r && r <= c[1] {
			return true
		}
	}
	return false
}

// plainWidth is the document's table, gone through from the front.
func plainWidth(r int32) int {
	if oneOf(narrowest, r) {
		return 0
	}
	if oneOf(widest, r) {
		return 2
	}
	return 1
}

func validRune(r int32) bool {
	return 0 <= r && r <= 0x10ffff && !(0xd800 <= r && r <= 0xdfff)
}

func canBeShown(r int32) bool {
	return r >= 0x20 && !(0x7f <= r && r <= 0x9f) && validRune(r)
}

// encode writes a number in n bytes of UTF-8's form, whether or not that may be.
func encode(r int32, n int) []byte {
	if n == 1 {
		return []byte{byte(r)}
	}
	out := make([]byte, n)
	for i := n - 1; i > 0; i-- {
		out[i] = 0x80 | byte(r&0x3f)
		r >>= 6
	}
	out[0] = byte(0xff<<(8-n)) | byte(r)
	return out
}

// shortest is the number of bytes that a rune has in valid UTF-8.
func shortest(r int32) int {
	switch {
	case r < 0x80:
		return 1
	case r < 0x800:
		return 2
	case r < 0x10000:
		return 3
	}
	return 4
}

// decode gives the rune at the front and its bytes; 0 bytes when none is there.
func decode(b []byte) (int32, int) {
	for n := 1; n <= 4 && n <= len(b); n++ {
		r := int32(b[0])
		if n > 1 {
			r &= 0xff >> (n + 1)
		}
		for _, c := range b[1:n] {
			r = r<<6 | int32(c&0x3f)
		}
		if validRune(r) && shortest(r) == n && slices.Equal(encode(r, n), b[:n]) {
			return r, n
		}
	}
	return 0, 0
}

// plainDecode is UTF-8 as the document says it, a byte that is none as U+FFFD.
func plainDecode(b []byte) []int32 {
	var out []int32
	for len(b) > 0 {
		r, n := decode(b)
		if n == 0 {
			r, n = 0xfffd, 1
		}
		out = append(out, r)
		b = b[n:]
	}
	return out
}

func plainClean(b []byte) []int32 {
	out := plainDecode(b)
	for i, r := range out {
		if r == 9 {
			out[i] = 0x20
		} else if !canBeShown(r) {
			out[i] = 0xfffd
		}
	}
	return out
}

func checkClean(t *testing.T, b []byte) {
	t.Helper()
	got := impl.Clean(b)
	for _, r := range got {
		if !canBeShown(r) {
			t.Fatalf("Clean of %q gives %#x", b, r)
		}
	}
	if want := plainClean(b); !slices.Equal(got, want) {
		t.Fatalf("Clean of %q: %x, not %x", b, got, want)
	}
}

func TestCleanOfBytes(t *testing.T) {
	for _, c := range []struct {
		in   string
		want []int32
	}{
		{"", nil},
		{"\t", []int32{0x20}},
		{"\x00\x08\x0a\x1f\x20\x7e\x7f", []int32{0xfffd, 0xfffd, 0xfffd, 0xfffd, 0x20, 0x7e, 0xfffd}},
		{"\xc2\x80\xc2\x9f\xc2\xa0", []int32{0xfffd, 0xfffd, 0xa0}},
		{"\xc1\xbf\xc2\x80", []int32{0xfffd, 0xfffd, 0xfffd}},
		{"\xe0\x9f\xbf", []int32{0xfffd, 0xfffd, 0xfffd}},
		{"\xe0\xa0\x80", []int32{0x800}},
		{"\xed\x9f\xbf\xee\x80\x80", []int32{0xd7ff, 0xe000}},
		{"\xed\xbf\xbf", []int32{0xfffd, 0xfffd, 0xfffd}},
		{"\xf0\x8f\xbf\xbf", []int32{0xfffd, 0xfffd, 0xfffd, 0xfffd}},
		{"\xf0\x90\x80\x80\xf4\x8f\xbf\xbf", []int32{0x10000, 0x10ffff}},
		{"\xf8\x88\x80\x80\x80", []int32{0xfffd, 0xfffd, 0xfffd, 0xfffd, 0xfffd}},
		{"\xf0\x9f\x98", []int32{0xfffd, 0xfffd, 0xfffd}},
		{"\xf0\x9f\xe4\xb8\x96", []int32{0xfffd, 0xfffd, 0x4e16}},
		{"\xef\xbf\xbd\xef\xbf\xbf", []int32{0xfffd, 0xffff}},
		{"\xcc\x81a", []int32{0x301, 'a'}},
	} {
		if got := impl.Clean([]byte(c.in)); !slices.Equal(got, c.want) {
			t.Errorf("Clean of %q: %x, not %x", c.in, got, c.want)
		}
	}
}

// edgeBytes begin and end the ranges that bytes of UTF-8 fall into.
var edgeBytes = []byte{0x00, 0x09, 0x1b, 0x41, 0x7f, 0x80, 0x8f, 0x90, 0x9f, 0xa0, 0xbf, 0xc0, 0xc1, 0xc2, 0xdf, 0xe0, 0xe1, 0xec, 0xed, 0xee, 0xef, 0xf0, 0xf1, 0xf3, 0xf4, 0xf5, 0xf7, 0xf8, 0xff}

func TestCleanOfAllShortBytes(t *testing.T) {
	for i := range 256 {
		checkClean(t, []byte{byte(i)})
		for j := range 256 {
			checkClean(t, []byte{byte(i), byte(j)})
		}
	}
	for _, a := range edgeBytes {
		for _, b := range edgeBytes {
			for _, c := range edgeBytes {
				checkClean(t, []byte{a, b, c})
				for _, d := range edgeBytes {
					checkClean(t, []byte{a, b, c, d})
				}
			}
		}
	}
}

func TestCleanOfEveryRuneInEveryForm(t *testing.T) {
	for i, limit := range []int32{0x100, 0x800, 0x10000, 0x120000} {
		var all []byte
		for r := range limit {
			all = append(all, encode(r, i+1)...)
		}
		checkClean(t, all)
	}
}

func TestCleanOfLongerBytes(t *testing.T) {
	random := rand.New(rand.NewPCG(1, 1))
	for range 2000 {
		b := make([]byte, random.IntN(30))
		for i := range b {
			b[i] = edgeBytes[random.IntN(len(edgeBytes))]
		}
		checkClean(t, b)
	}
}

func TestRuneWidthOfEveryRune(t *testing.T) {
	for r := int32(-70000); r <= 0x120000; r++ {
		if got, want := impl.RuneWidth(r), plainWidth(r); got != want {
			t.Fatalf("width of %#x: %d, not %d", r, got, want)
		}
	}
	for _, r := range []int32{math.MinInt32, math.MinInt32 + 1, math.MaxInt32 - 1, math.MaxInt32} {
		if got := impl.RuneWidth(r); got != 1 {
			t.Errorf("width of %#x: %d", r, got)
		}
	}
}

// edgeRunes are the first and the last of each class of runes, and their neighbours.
func edgeRunes() []int32 {
	out := []int32{math.MinInt32, -1, 0, 9, 10, 0x1f, 0x20, 0x21, 'a', 0x7e, 0x7f, 0x80, 0x9f, 0xa0, 0xd7ff, 0xd800, 0xdbff, 0xdc00, 0xdfff, 0xe000, 0xfffd, 0x25cc, 0x10fffe, 0x10ffff, 0x110000, math.MaxInt32}
	for _, c := range slices.Concat(narrowest, widest) {
		out = append(out, c[0]-1, c[0], c[1], c[1]+1)
	}
	return out
}

func plainClusters(runes []int32) []impl.Cluster {
	var out []impl.Cluster
	for i, r := range runes {
		if !canBeShown(r) {
			r = 0xfffd
		}
		if i == 0 && plainWidth(r) == 0 {
			out = append(out, impl.Cluster{Runes: []int32{0x25cc}, Width: 1})
		}
		if plainWidth(r) > 0 {
			out = append(out, impl.Cluster{Width: plainWidth(r)})
		}
		last := &out[len(out)-1]
		last.Runes = append(last.Runes, r)
	}
	return out
}

func sameClusters(a, b []impl.Cluster) bool {
	return slices.EqualFunc(a, b, func(x, y impl.Cluster) bool {
		return x.Width == y.Width && slices.Equal(x.Runes, y.Runes)
	})
}

func checkClusters(t *testing.T, runes []int32) {
	t.Helper()
	if got, want := impl.Clusters(runes), plainClusters(runes); !sameClusters(got, want) {
		t.Fatalf("Clusters of %x: %x, not %x", runes, got, want)
	}
}

func TestClustersByHand(t *testing.T) {
	for _, c := range []struct {
		in   []int32
		want []impl.Cluster
	}{
		{nil, nil},
		{[]int32{'a', 0x4e16}, []impl.Cluster{{Runes: []int32{'a'}, Width: 1}, {Runes: []int32{0x4e16}, Width: 2}}},
		{[]int32{0x4e16, 0x301, 0xfe0f}, []impl.Cluster{{Runes: []int32{0x4e16, 0x301, 0xfe0f}, Width: 2}}},
		{[]int32{0x301, 0x302}, []impl.Cluster{{Runes: []int32{0x25cc, 0x301, 0x302}, Width: 1}}},
		{[]int32{9, 0x301}, []impl.Cluster{{Runes: []int32{0xfffd, 0x301}, Width: 1}}},
		{[]int32{0x20, 0x7f, 0xa0}, []impl.Cluster{{Runes: []int32{0x20}, Width: 1}, {Runes: []int32{0xfffd}, Width: 1}, {Runes: []int32{0xa0}, Width: 1}}},
		{[]int32{-1, 0x110000}, []impl.Cluster{{Runes: []int32{0xfffd}, Width: 1}, {Runes: []int32{0xfffd}, Width: 1}}},
		{[]int32{0xdfff, 0xe000}, []impl.Cluster{{Runes: []int32{0xfffd}, Width: 1}, {Runes: []int32{0xe000}, Width: 1}}},
	} {
		if got := impl.Clusters(c.in); !sameClusters(got, c.want) {
			t.Errorf("Clusters of %x: %x, not %x", c.in, got, c.want)
		}
	}
}

func TestClustersOfEdges(t *testing.T) {
	edges := edgeRunes()
	for _, a := range edges {
		checkClusters(t, []int32{a})
		for _, b := range edges {
			checkClusters(t, []int32{a, b})
			checkClusters(t, []int32{0x301, a, b, 0x301})
		}
	}
}

func TestTextOfRunes(t *testing.T) {
	for _, c := range []struct {
		in   []impl.Cluster
		want string
	}{
		{nil, ""},
		{[]impl.Cluster{{}, {Width: 7}}, ""},
		{[]impl.Cluster{{Runes: []int32{'e', 0x301}, Width: 1}, {Runes: []int32{0x4e16}, Width: -3}}, "e\u0301\u4e16"},
		{[]impl.Cluster{{Runes: []int32{0, 9, 0x7f, 0x80}}}, "\x00\t\x7f\xc2\x80"},
		{[]impl.Cluster{{Runes: []int32{0xd7ff, 0xd800, 0xdfff, 0xe000}}}, "\ud7ff\ufffd\ufffd\ue000"},
		{[]impl.Cluster{{Runes: []int32{math.MinInt32, -1, 0x10ffff, 0x110000, math.MaxInt32}}}, "\ufffd\ufffd\U0010ffff\ufffd\ufffd"},
		{[]impl.Cluster{{Runes: []int32{0x7f, 0x7ff, 0x800, 0xffff, 0x10000}}}, "\x7f\u07ff\u0800\uffff\U00010000"},
	} {
		if got := impl.TextOf(c.in); got != c.want {
			t.Errorf("TextOf %x: %q, not %q", c.in, got, c.want)
		}
	}
}

func TestTextOfIsReadBack(t *testing.T) {
	for _, r := range edgeRunes() {
		clusters := impl.Clusters([]int32{'x', r, 0x4e16, r})
		text := impl.TextOf(clusters)
		if again := impl.Clusters(impl.Clean([]byte(text))); !sameClusters(clusters, again) {
			t.Errorf("%q is read back as %x, not %x", text, again, clusters)
		}
	}
}

func counted(width int) int {
	switch {
	case width < 0:
		return 0
	case width > 1000:
		return 1000
	}
	return width
}

func rowWidth(row []impl.Cluster) int {
	width := 0
	for _, c := range row {
		width += counted(c.Width)
	}
	return width
}

// checkWrap asks for all that says where rows end, the first promise with it.
func checkWrap(t *testing.T, clusters []impl.Cluster, cols int) {
	t.Helper()
	rows := impl.Wrap(clusters, cols)
	if cols < 2 {
		if len(rows) != 0 {
			t.Fatalf("%d columns: %v", cols, rows)
		}
		return
	}
	if len(rows) == 0 || len(clusters) == 0 && len(rows) != 1 {
		t.Fatalf("%d rows of %d clusters", len(rows), len(clusters))
	}
	if !sameClusters(slices.Concat(rows...), clusters) {
		t.Fatalf("%v in %d columns: %v", clusters, cols, rows)
	}
	for i, row := range rows {
		if len(row) > 1 && rowWidth(row) > cols {
			t.Fatalf("%v in %d columns: row %d of %v is too wide", clusters, cols, i, rows)
		}
		if len(clusters) > 0 && len(row) == 0 {
			t.Fatalf("%v in %d columns: row %d of %v is empty", clusters, cols, i, rows)
		}
		if i > 0 && rowWidth(rows[i-1])+counted(row[0].Width) <= cols {
			t.Fatalf("%v in %d columns: row %d of %v begins too early", clusters, cols, i, rows)
		}
	}
}

func widthsOf(widths ...int) []impl.Cluster {
	var out []impl.Cluster
	for i, w := range widths {
		out = append(out, impl.Cluster{Runes: []int32{int32('a' + i)}, Width: w})
	}
	return out
}

func TestWrapByHand(t *testing.T) {
	for _, c := range []struct {
		widths []int
		cols   int
		want   string
	}{
		{nil, 2, ""},
		{[]int{1, 1, 1}, 2, "ab|c"},
		{[]int{1, 2, 1, 2}, 3, "ab|cd"},
		{[]int{1, 2, 2}, 2, "a|b|c"},
		{[]int{5, 1}, 3, "a|b"},
		{[]int{5, 0, 3}, 3, "a|bc"},
		{[]int{3, 0, -9, 1}, 3, "abc|d"},
		{[]int{math.MinInt, 1000, 1}, 1000, "ab|c"},
		{[]int{1001, 0}, 1000, "ab"},
		{[]int{math.MaxInt, 1, 1}, 1001, "ab|c"},
		{[]int{999, 1}, 1000, "ab"},
		{[]int{1000, 1000, math.MaxInt}, math.MaxInt, "abc"},
	} {
		var texts []string
		for _, row := range impl.Wrap(widthsOf(c.widths...), c.cols) {
			texts = append(texts, impl.TextOf(row))
		}
		if got := strings.Join(texts, "|"); got != c.want {
			t.Errorf("widths %v in %d columns: %q, not %q", c.widths, c.cols, got, c.want)
		}
	}
	for _, cols := range []int{math.MinInt, -1, 0, 1} {
		if rows := impl.Wrap(widthsOf(1, 1), cols); len(rows) != 0 {
			t.Errorf("%d columns: %v", cols, rows)
		}
	}
}

func TestWrapKeepsPromise(t *testing.T) {
	random := rand.New(rand.NewPCG(2, 2))
	odd := []int{math.MinInt, -1, 0, 1, 1, 1, 2, 2, 2, 3, 7, 999, 1000, 1001, math.MaxInt}
	for range 5000 {
		widths := make([]int, random.IntN(25))
		for i := range widths {
			widths[i] = odd[random.IntN(len(odd))]
		}
		for _, cols := range []int{1, 2, 3, 5, 999, 1000, 1001, 2001} {
			checkWrap(t, widthsOf(widths...), cols)
		}
	}
}

func TestWrapNeverTooWide(t *testing.T) {
	runes := edgeRunes()
	random := rand.New(rand.NewPCG(3, 3))
	random.Shuffle(len(runes), func(i, j int) { runes[i], runes[j] = runes[j], runes[i] })
	clusters := impl.Clusters(runes)
	for cols := 2; cols <= 2*len(clusters)+1; cols++ {
		checkWrap(t, clusters, cols)
		for _, row := range impl.Wrap(clusters, cols) {
			if rowWidth(row) > cols {
				t.Errorf("%d columns: a row of %d", cols, rowWidth(row))
			}
		}
	}
}

func TestCellsMemory(t *testing.T) {
	b := roomy([]byte("a\tb\xff\xcc\x81\xe4\xb8\x96\n"))
	checkMemory(t, "Clean", []any{b}, func() []any { return []any{impl.Clean(b)} })
	runes := roomy([]int32{0x301, 7, 'a', 0x302, 0x303, 0x4e16, -1, 0xd800})
	checkMemory(t, "Clusters", []any{runes}, func() []any { return []any{impl.Clusters(runes)} })
	clusters := roomy([]impl.Cluster{
		{Runes: roomy([]int32{'a', 0x301}), Width: 1}, {Runes: roomy([]int32{-1}), Width: -1}, {}, {Runes: roomy([]int32{0x4e16}), Width: 2000}, {Runes: roomy([]int32{}), Width: 2},
	})
	checkMemory(t, "TextOf", []any{clusters}, func() []any { return []any{impl.TextOf(clusters)} })
	for _, cols := range []int{1, 2, 3, 5000} {
		checkMemory(t, "Wrap", []any{clusters}, func() []any { return []any{impl.Wrap(clusters, cols)} })
	}
}
