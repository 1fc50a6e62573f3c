package feed_test

import (
	"math"
	"slices"
	"strings"
	"testing"

	"girandole/api"
	"girandole/feed"
	"girandole/tree"
)

// TestRows: texts that are rows.
func TestRows(t *testing.T) {
	taken(t, "ib", "7 true", []int64{7, 1})
	taken(t, "ib", "7 true\n", []int64{7, 1})
	taken(t, "ib", "7 true\n-8 false", []int64{7, 1}, []int64{-8, 0})
	taken(t, "ib", "0 false\n0 false\n1 true\n", []int64{0, 0}, []int64{0, 0}, []int64{1, 1})
	taken(t, "bi", "true 7", []int64{1, 7})
	taken(t, "i", "5\n6\n-1", []int64{5}, []int64{6}, []int64{-1})
	taken(t, "b", "true\nfalse\ntrue", []int64{1}, []int64{0}, []int64{1})
	taken(t, "iii", "10 -10 100", []int64{10, -10, 100})
	taken(t, "bbb", "false true false", []int64{0, 1, 0})
	taken(t, strings.Repeat("ib", 30), strings.Repeat("9 true ", 29)+"9 true", slices.Repeat([]int64{9, 1}, 30))
}

// TestNumbers: a number's word, up to the least and the greatest one.
func TestNumbers(t *testing.T) {
	taken(t, "i", "0", []int64{0})
	taken(t, "i", "-1", []int64{-1})
	taken(t, "i", "1234567890", []int64{1234567890})
	taken(t, "i", "9223372036854775807", []int64{math.MaxInt64})
	taken(t, "i", "-9223372036854775807", []int64{-math.MaxInt64})
	taken(t, "i", "-9223372036854775808", []int64{math.MinInt64})
	taken(t, "i", "-9000000000000000000", []int64{-9000000000000000000})
	for _, big := range []string{"9223372036854775808", "9223372036854775810", "9999999999999999999", "10000000000000000000", "18446744073709551615", "18446744073709551616", "18446744073709551617", "340282366920938463463374607431768211456", "1" + strings.Repeat("0", 5000)} {
		refused(t, "i", big, 0, api.ErrBig)
		if big != "9223372036854775808" {
			refused(t, "i", "-"+big, 0, api.ErrBig)
		}
		refused(t, "i", "0"+big, 0, api.ErrForm)
		refused(t, "i", big+"x", 0, api.ErrForm)
		refused(t, "b", big, 0, api.ErrForm)
	}
	refused(t, "i", "-9223372036854775809", 0, api.ErrBig)
	for _, word := range []string{"07", "00", "-0", "-07", "-", "--1", "+1", "+0", "1-", "1-1", "0x10", "0b1", "0o7", "1_000", "1.0", "1.", "1e3", ".", ".5", "x", "true", "false", "1,", "٣", "1\x00", "\x001", "½"} {
		refused(t, "i", word, 0, api.ErrForm)
		refused(t, "ib", "1 true\n"+word+" true", 1, api.ErrForm)
	}
}

// TestTruths: a truth's word is one of two.
func TestTruths(t *testing.T) {
	taken(t, "b", "true", []int64{1})
	taken(t, "b", "false", []int64{0})
	for _, word := range []string{"1", "0", "t", "T", "True", "TRUE", "tru", "true.", "truefalse", "yes", "not", "f", "False", ".", "-true", "x", "07"} {
		refused(t, "b", word, 0, api.ErrForm)
		refused(t, "bi", "true 1\n"+word+" 1", 1, api.ErrForm)
	}
}

// TestNothing: without Ins a row is a point.
func TestNothing(t *testing.T) {
	taken(t, "", ".", nil)
	taken(t, "", ".\n", nil)
	taken(t, "", "\n.\n\n.\n.", nil, nil, nil)
	for _, line := range []string{"..", ". ", " .", ". .", " ", "0", "5", "true", "x", "-", ".\r", "\t"} {
		refused(t, "", line, 0, api.ErrForm)
		refused(t, "", ".\n\n"+line+"\n.", 2, api.ErrForm)
	}
	if feed.Nothing != "." {
		t.Errorf("Nothing is %q", feed.Nothing)
	}
}

// TestEmptyLines say nothing, but are counted.
func TestEmptyLines(t *testing.T) {
	for _, kinds := range []string{"", "i", "b", "ib"} {
		taken(t, kinds, "")
		taken(t, kinds, "\n")
		taken(t, kinds, strings.Repeat("\n", 1000))
	}
	taken(t, "i", "\n\n5\n\n\n6\n\n", []int64{5}, []int64{6})
	taken(t, "i", strings.Repeat("\n", 1000)+"5", []int64{5})
	refused(t, "i", "x", 0, api.ErrForm)
	refused(t, "i", "\nx", 1, api.ErrForm)
	refused(t, "i", "5\n\n\nx\n", 3, api.ErrForm)
	refused(t, "i", strings.Repeat("\n", 1000)+"x", 1000, api.ErrForm)
	refused(t, "ib", "\n\n5", 2, api.ErrMany)
}

// TestBlanks: one blank stands between words, and none elsewhere; no other byte does.
func TestBlanks(t *testing.T) {
	refused(t, "ib", "7  true", 0, api.ErrForm)
	refused(t, "ib", " 7 true", 0, api.ErrForm)
	refused(t, "ib", "7 true ", 0, api.ErrMany)
	refused(t, "ib", "7 ", 0, api.ErrForm)
	refused(t, "ib", " ", 0, api.ErrForm)
	refused(t, "i", " ", 0, api.ErrForm)
	refused(t, "i", "7 ", 0, api.ErrMany)
	refused(t, "i", " 7", 0, api.ErrForm)
	refused(t, "i", "7\n \n8", 1, api.ErrForm)
	for _, b := range []string{"\t", "\r", "\v", "\f", "\x00", "\u00a0", "\u2003", ",", ";"} {
		refused(t, "ib", "7"+b+"true", 0, api.ErrForm)
		refused(t, "ib", "7 true"+b, 0, api.ErrForm)
		refused(t, "ib", b+"7 true", 0, api.ErrForm)
		refused(t, "i", "7"+b+"\n8", 0, api.ErrForm)
		refused(t, "i", b, 0, api.ErrForm)
	}
	refused(t, "i", "7\r\n8\r\n", 0, api.ErrForm)
}

// TestMany: more words than there should be, or fewer.
func TestMany(t *testing.T) {
	refused(t, "ib", "7", 0, api.ErrMany)
	refused(t, "ib", "7 true 8", 0, api.ErrMany)
	refused(t, "ib", "7 true\n7 true\n7\n", 2, api.ErrMany)
	refused(t, "i", "7 8", 0, api.ErrMany)
	refused(t, "i", "7 8 9", 0, api.ErrMany)
	refused(t, "bbb", "true false", 0, api.ErrMany)
	refused(t, "iii", "1 2 3 4", 0, api.ErrMany)
}

// TestLimits: so many rows, and no more, however many lines.
func TestLimits(t *testing.T) {
	rows := make([][]int64, api.MaxRows)
	for i := range rows {
		rows[i] = []int64{5, 1}
	}
	full := strings.Repeat("5 true\n", api.MaxRows)
	taken(t, "ib", full, rows...)
	taken(t, "ib", strings.TrimSuffix(full, "\n"), rows...)
	taken(t, "ib", full+"\n\n", rows...)
	taken(t, "ib", strings.ReplaceAll(full, "\n", "\n\n\n"), rows...)
	refused(t, "ib", full+"5 true", 200, api.ErrLimits)
	refused(t, "ib", full+"\n\n5 true\n", 202, api.ErrLimits)
	refused(t, "ib", "\n"+full+full, 201, api.ErrLimits)
	taken(t, "", strings.Repeat(".\n", 200), make([][]int64, 200)...)
	refused(t, "", strings.Repeat(".\n", 201), 200, api.ErrLimits)
	refused(t, "i", strings.Repeat("7\n", 5000), 200, api.ErrLimits)
}

// TestWhichFirst: of several errors that of the first wrong line is told, and of this one the first.
func TestWhichFirst(t *testing.T) {
	full := strings.Repeat("5 true\n", api.MaxRows)
	for _, line := range []string{"x", "5", "5 true 6", "9223372036854775808 true", " ", "."} {
		refused(t, "ib", full+line, 200, api.ErrLimits)
	}
	refused(t, "", strings.Repeat(".\n", 200)+"x", 200, api.ErrLimits)
	refused(t, "ib", strings.Repeat("5 true\n", 199)+"x true\n5 true\n5 true", 199, api.ErrForm)
	refused(t, "ib", "5\nx true", 0, api.ErrMany)
	refused(t, "ib", "5 true\n9999999999999999999 true\nx\n5", 1, api.ErrBig)
	for _, more := range []string{"x", "07", "9999999999999999999", "", "true"} {
		refused(t, "ib", "5 true "+more, 0, api.ErrMany) // one more, ahead of what it is
		refused(t, "ib", "x true "+more, 0, api.ErrForm) // but behind those ahead of it
		refused(t, "ib", "9999999999999999999 true "+more, 0, api.ErrBig)
		refused(t, "ib", "5 x "+more, 0, api.ErrForm)
	}
	refused(t, "iib", "x 5", 0, api.ErrForm) // fewer, behind what those that there are are
	refused(t, "iib", "5 x", 0, api.ErrForm)
	refused(t, "iib", "5 9999999999999999999", 0, api.ErrBig)
	refused(t, "ii", "9999999999999999999 x", 0, api.ErrBig) // word by word
	refused(t, "ii", "x 9999999999999999999", 0, api.ErrForm)
}

// TestBareNode: of a node its Ins alone count.
func TestBareNode(t *testing.T) {
	for _, n := range []tree.Node{{Ins: decls("ib")}, {Name: "g", At: 7, Ins: decls("ib"), Outs: decls("bbb"), Eqs: []tree.Eq{{Async: true}}}} {
		if l, at, err := feed.Parse(n, "7 true"); len(l) != 1 || !slices.Equal(l[0], []int64{7, 1}) || at != -1 || err != api.OK {
			t.Errorf("Parse for %v: %v, %d, %d", n, l, at, err)
		}
	}
	n := tree.Node{Ins: []tree.Decl{{}, {Clock: "c", Off: true, Type: tree.Type{Bool: true}}}} // no name; on a clock
	if l, at, err := feed.Parse(n, "-7 false\n"); len(l) != 1 || !slices.Equal(l[0], []int64{-7, 0}) || at != -1 || err != api.OK {
		t.Errorf("Parse for %v: %v, %d, %d", n, l, at, err)
	}
}
