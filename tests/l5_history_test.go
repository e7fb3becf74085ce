package tests

import (
	"fmt"
	"math"
	"math/rand/v2"
	"slices"
	"strings"
	"testing"

	"loop.example/s01474/impl"
)

func plainHistoryOk(h impl.History) bool {
	ok := h.Cap >= 1 && h.Cap <= 100 && len(h.Items) <= h.Cap
	for _, item := range h.Items {
		ok = ok && item != "" && plainSettled(item) && runesIn(item) <= 300
	}
	return ok && len(slices.Compact(slices.Clone(h.Items))) == len(h.Items)
}

func plainAdd(h impl.History, text string) (impl.History, bool) {
	out := impl.History{Cap: h.Cap, Items: append(slices.Clone(h.Items), text)}
	if len(out.Items) > h.Cap {
		out.Items = out.Items[1:]
	}
	alone := impl.History{Cap: 1, Items: []string{text}}
	if !plainHistoryOk(h) || !plainHistoryOk(alone) || len(h.Items) > 0 && h.Items[len(h.Items)-1] == text {
		return h, false
	}
	return out, true
}

func plainLatest(h impl.History, part string) (string, bool) {
	found, ok := "", false
	for _, item := range h.Items {
		if plainHistoryOk(h) && item != part && strings.Index(item, part) >= 0 {
			found, ok = item, true
		}
	}
	return found, ok
}

func sameHistory(a, b impl.History) bool {
	return a.Cap == b.Cap && slices.Equal(a.Items, b.Items)
}

func manyItems(n int) []string {
	var out []string
	for i := range n {
		out = append(out, fmt.Sprint("item ", i))
	}
	return out
}

// brokenHistories has one for each way in which a history can't be valid.
func brokenHistories() []impl.History {
	out := []impl.History{
		{}, {Cap: -1}, {Cap: math.MinInt}, {Cap: 101}, {Cap: math.MaxInt}, {Items: []string{"a"}}, {Cap: 0, Items: manyItems(3)}, {Cap: -3, Items: manyItems(3)},
		{Cap: 1, Items: manyItems(2)}, {Cap: 2, Items: manyItems(5)}, {Cap: 99, Items: manyItems(100)}, {Cap: 100, Items: manyItems(101)}, {Cap: 101, Items: manyItems(101)}, {Cap: 100, Items: manyItems(1000)}, {Cap: 150, Items: manyItems(120)},
		{Cap: 3, Items: []string{"a", "a"}}, {Cap: 3, Items: []string{"b", "a", "a"}}, {Cap: 9, Items: []string{"a", "a", "b"}}, {Cap: 9, Items: []string{"x", "a", "a", "b"}},
	}
	for _, bad := range []string{"", "\x01", "a\t", "\x7f", "\u0085", "\u0301", "\u200bx", "\xff", "a\xe4\xb8", "\xed\xa0\x80", times("x", 301), times("\u4e16", 301)} {
		out = append(out, impl.History{Cap: 1, Items: []string{bad}}, impl.History{Cap: 9, Items: []string{bad, "a"}}, impl.History{Cap: 9, Items: []string{"a", bad, "b"}}, impl.History{Cap: 9, Items: []string{"a", "b", bad}})
	}
	return out
}

// soundHistories are at the edges of what is valid.
func soundHistories() []impl.History {
	return []impl.History{
		{Cap: 1}, {Cap: 1, Items: []string{"a"}}, {Cap: 2, Items: []string{"a"}}, {Cap: 2, Items: []string{"a", "b"}}, {Cap: 3, Items: []string{"a", "b", "a"}}, {Cap: 9, Items: []string{"a", "b", "a", "b"}},
		{Cap: 100}, {Cap: 99, Items: manyItems(99)}, {Cap: 100, Items: manyItems(99)}, {Cap: 100, Items: manyItems(100)}, {Cap: 4, Items: []string{" ", "  ", "a ", " a"}},
		{Cap: 4, Items: []string{times("x", 300), times("\u4e16", 300), "\u25cc\u0301", "a\u0301"}}, {Cap: 2, Items: []string{"x", times("a\u0301", 150)}},
	}
}

func TestHistoryOk(t *testing.T) {
	for i, h := range brokenHistories() {
		if plainHistoryOk(h) || impl.HistoryOk(h) {
			t.Errorf("broken history %d is valid: %+v", i, h)
		}
	}
	for i, h := range soundHistories() {
		if !plainHistoryOk(h) || !impl.HistoryOk(h) {
			t.Errorf("sound history %d is not valid: %+v", i, h)
		}
	}
	if impl.MaxItems != 100 {
		t.Errorf("MaxItems is %d", impl.MaxItems)
	}
}

func TestBrokenHistoriesStay(t *testing.T) {
	for i, h := range brokenHistories() {
		for _, text := range []string{"x", "", "a", "item 1", "\x01"} {
			if got, ok := impl.Add(h, text); ok || !sameHistory(got, h) {
				t.Errorf("broken history %d with %q: %+v, %v", i, text, got, ok)
			}
			if got, ok := impl.Latest(h, text); ok || got != "" {
				t.Errorf("broken history %d: the latest with %q is %q, %v", i, text, got, ok)
			}
		}
	}
}

func TestAddByHand(t *testing.T) {
	for _, c := range []struct {
		cap         int
		items, text string
		want        string
		ok          bool
	}{
		{1, "", "a", "a", true}, {1, "a", "b", "b", true}, {1, "a", "a", "a", false}, {2, "a", "b", "a,b", true}, {2, "a,b", "c", "b,c", true}, {2, "a,b", "a", "b,a", true}, {2, "a,b", "b", "a,b", false},
		{3, "a,b,a", "b", "b,a,b", true}, {3, "a,b,a", "a", "a,b,a", false}, {3, "a,b", "a", "a,b,a", true}, {5, "a,b", "c", "a,b,c", true},
		{2, "a,b", "", "a,b", false}, {2, "", "", "", false}, {2, "a,b", "\t", "a,b", false}, {2, "a,b", "c\x01", "a,b", false}, {2, "a,b", "\u0301", "a,b", false}, {2, "a,b", "\xff", "a,b", false}, {2, "a,b", "\u0080", "a,b", false},
		{2, "a,b", " ", "b, ", true}, {2, "a,b", "b ", "b,b ", true}, {2, "a,b", "B", "b,B", true}, {2, "a,b", "b\u0301", "b,b\u0301", true}, {2, "a,b", "\u25cc\u0301", "b,\u25cc\u0301", true},
		{2, "a,b", times("x", 300), "b," + times("x", 300), true}, {2, "a,b", times("\u4e16", 300), "b," + times("\u4e16", 300), true}, {2, "a,b", times("x", 301), "a,b", false}, {2, "a,b", times("\u4e16", 301), "a,b", false},
	} {
		h := impl.History{Cap: c.cap}
		if c.items != "" {
			h.Items = strings.Split(c.items, ",")
		}
		got, ok := impl.Add(h, c.text)
		if strings.Join(got.Items, ",") != c.want || got.Cap != c.cap || ok != c.ok {
			t.Errorf("%q of %d with %q: %+v, %v", c.items, c.cap, c.text, got, ok)
		}
	}
}

func TestLatestByHand(t *testing.T) {
	h := impl.History{Cap: 9, Items: []string{"list all", "make list", "relist it", "make", "\u4e16\u754c", "e\u0301 x"}}
	for _, c := range []struct {
		part, want string
	}{
		{"", "e\u0301 x"}, {"list", "relist it"}, {"list ", "relist it"}, {" list", "make list"}, {"list a", "list all"}, {"all", "list all"}, {"make", "make list"}, {"make ", "make list"}, {"mak", "make"}, {"re", "relist it"}, {"t", "relist it"},
		{"make list", ""}, {"list all", ""}, {"e\u0301 x", ""}, {"e\u0301", "e\u0301 x"}, {"e", "e\u0301 x"}, {"\u0301", "e\u0301 x"}, {"\u754c", "\u4e16\u754c"}, {"LIST", ""}, {"listall", ""}, {"none", ""}, {"list all ", ""}, {"\x00", ""}, {times("x", 1000), ""},
	} {
		got, ok := impl.Latest(h, c.part)
		if got != c.want || ok != (c.want != "") {
			t.Errorf("%q: %q, %v, not %q", c.part, got, ok, c.want)
		}
	}
	for _, c := range []struct {
		items, part, want string
	}{
		{"a", "a", ""}, {"ab,a", "a", "ab"}, {"a,ab,a", "a", "ab"}, {"ab,xabx,a,b", "ab", "xabx"}, {"a,b", "", "b"}, {"ab,a,ba", "a", "ba"}, {"ab", "b", "ab"},
	} {
		h := impl.History{Cap: 9, Items: strings.Split(c.items, ",")}
		if got, ok := impl.Latest(h, c.part); got != c.want || ok != (c.want != "") {
			t.Errorf("%q in %q: %q, %v", c.part, c.items, got, ok)
		}
	}
	if got, ok := impl.Latest(impl.History{Cap: 1}, ""); got != "" || ok {
		t.Errorf("no items: %q, %v", got, ok)
	}
}

// checkHistory asks for what the model gives, and for promise 6.
func checkHistory(t *testing.T, h impl.History, text string) impl.History {
	t.Helper()
	want, wantOk := plainAdd(h, text)
	got, ok := impl.Add(h, text)
	if ok != wantOk || !sameHistory(got, want) {
		t.Fatalf("%+v with %q: %+v, %v, not %+v, %v", h, text, got, ok, want, wantOk)
	}
	if plainHistoryOk(h) && (!impl.HistoryOk(got) || len(got.Items) > got.Cap) {
		t.Fatalf("%+v with %q is not valid any more: %+v", h, text, got)
	}
	found, foundOk := impl.Latest(h, text)
	if wantFound, wantOk := plainLatest(h, text); found != wantFound || foundOk != wantOk {
		t.Fatalf("the latest of %+v with %q: %q, %v, not %q, %v", h, text, found, foundOk, wantFound, wantOk)
	}
	return got
}

func TestEveryTextInEdgeHistories(t *testing.T) {
	texts := []string{"", "a", "b", "ab", "item", "item 0", "item 9", "item 98", "item 99", " ", "x", "\x01", "\u0301", "\xff", "\xb8", times("x", 299), times("x", 300), times("x", 301), times("\u4e16", 300), times("\u4e16", 301)}
	for _, h := range append(soundHistories(), brokenHistories()...) {
		for _, text := range texts {
			checkHistory(t, h, text)
		}
	}
}

func TestHistoriesOfEveryCap(t *testing.T) {
	for limit := -1; limit <= impl.MaxItems+1; limit++ {
		h := impl.History{Cap: limit}
		for i := range 2*impl.MaxItems + 5 {
			h = checkHistory(t, h, fmt.Sprint("item ", i))
			if want := min(i+1, limit); limit >= 1 && limit <= impl.MaxItems && (len(h.Items) != want || h.Items[want-1] != fmt.Sprint("item ", i) || h.Items[0] != fmt.Sprint("item ", i+1-want)) {
				t.Fatalf("Cap %d after %d texts: %q", limit, i+1, h.Items)
			}
		}
	}
}

func TestLongHistories(t *testing.T) {
	random := rand.New(rand.NewPCG(51, 1))
	texts := []string{"a", "b", "ab", "ba", "aba", "\u4e16", "a\u0301", " ", "", "\x01", "\u0301", "a b", times("x", 300), times("x", 301)}
	for range 200 {
		h := impl.History{Cap: 1 + random.IntN(6)}
		for range 40 {
			h = checkHistory(t, h, texts[random.IntN(len(texts))])
		}
	}
}

func TestHistoryMemory(t *testing.T) {
	for _, h := range append(soundHistories(), brokenHistories()...) {
		h.Items = roomy(h.Items)
		for _, text := range []string{"new", "", "a", "b", "\x01", times("x", 301)} {
			checkMemory(t, "Add", []any{h}, func() []any {
				next, _ := impl.Add(h, text)
				return []any{next}
			})
			checkMemory(t, "Latest", []any{h}, func() []any {
				found, _ := impl.Latest(h, text)
				return []any{found}
			})
		}
		checkMemory(t, "HistoryOk", []any{h}, func() []any { return []any{impl.HistoryOk(h)} })
	}
}
