package impl

import "unicode/utf8"

// replacement stands for whatever can't be shown.
const replacement = 0xFFFD

// dottedCircle carries the marks that come without a base.
const dottedCircle = 0x25CC

// widestCounted keeps the sum of odd Widths far from overflow.
const widestCounted = 1000

// Cluster is described in the document.
type Cluster struct {
	Runes []int32
	Width int
}

// widthClass is a run of runes, first and last among them, of one width.
type widthClass struct {
	first int32
	last  int32
	width int
}

// widthClasses leaves out the width 1, and rises, because RuneWidth searches it
// by halves.
var widthClasses = [...]widthClass{
	{0x0300, 0x036F, 0},
	{0x0483, 0x0489, 0},
	{0x0591, 0x05BD, 0},
	{0x1100, 0x115F, 2},
	{0x200B, 0x200F, 0},
	{0x20D0, 0x20F0, 0},
	{0x2E80, 0x303E, 2},
	{0x3041, 0x4DBF, 2},
	{0x4E00, 0xA4CF, 2},
	{0xAC00, 0xD7A3, 2},
	{0xF900, 0xFAFF, 2},
	{0xFE00, 0xFE0F, 0},
	{0xFE20, 0xFE2F, 0},
	{0xFE30, 0xFE6F, 2},
	{0xFF00, 0xFF60, 2},
	{0xFFE0, 0xFFE6, 2},
	{0x1F300, 0x1F64F, 2},
	{0x1F900, 0x1F9FF, 2},
	{0x20000, 0x3FFFD, 2},
}

// Clean turns bytes into runes that can be shown.
func Clean(b []byte) []int32 {
	var runes []int32
	for _, r := range string(b) {
		if r == '\t' {
			r = ' '
		}
		runes = append(runes, showable(r))
	}
	return runes
}

// showable gives a rune that Clean may give.
func showable(r rune) rune {
	if isControl(r) || !utf8.ValidRune(r) {
		return replacement
	}
	return r
}

func isControl(r rune) bool {
	return r < 0x20 || 0x7F <= r && r <= 0x9F
}

// RuneWidth is the number of columns of a rune.
func RuneWidth(r int32) int {
	low, high := 0, len(widthClasses)
	for low < high {
		middle := (low + high) / 2
		class := widthClasses[middle]
		switch {
		case r < class.first:
			high = middle
		case r > class.last:
			low = middle + 1
		default:
			return class.width
		}
	}
	return 1
}

// Clusters cuts runes into clusters.
func Clusters(runes []int32) []Cluster {
	var clusters []Cluster
	for _, given := range runes {
		r := showable(given)
		width := RuneWidth(r)
		switch {
		case width > 0:
			clusters = append(clusters, Cluster{Runes: []int32{r}, Width: width})
		case len(clusters) == 0:
			clusters = append(clusters, Cluster{Runes: []int32{dottedCircle, r}, Width: RuneWidth(dottedCircle)})
		default:
			last := &clusters[len(clusters)-1]
			last.Runes = append(last.Runes, r)
		}
	}
	return clusters
}

// TextOf is the text of clusters.
func TextOf(cs []Cluster) string {
	var text []byte
	for _, c := range cs {
		for _, r := range c.Runes {
			text = utf8.AppendRune(text, r)
		}
	}
	return string(text)
}

// Wrap lays clusters out in rows.
func Wrap(cs []Cluster, cols int) [][]Cluster {
	if cols < 2 {
		return nil
	}
	var rows [][]Cluster
	var row []Cluster
	taken := 0
	for _, c := range cs {
		width := countedWidth(c)
		if len(row) > 0 && taken+width > cols {
			rows = append(rows, row)
			row, taken = nil, 0
		}
		row = append(row, copyCluster(c))
		taken += width
	}
	return append(rows, row)
}

func countedWidth(c Cluster) int {
	return min(max(c.Width, 0), widestCounted)
}

func copyCluster(c Cluster) Cluster {
	return Cluster{Runes: append([]int32(nil), c.Runes...), Width: c.Width}
}
