package feed_test

import (
	"math"
	"strings"
	"testing"

	"girandole/feed"
	"girandole/tree"
)

// TestRow: values as a line; what is wanting is 0, what is more doesn't count.
func TestRow(t *testing.T) {
	for _, c := range []struct {
		kinds  string
		values []int64
		want   string
	}{
		{"ib", []int64{7, 1}, "7 true"},
		{"ib", []int64{-7, 0}, "-7 false"},
		{"bi", []int64{1, 0}, "true 0"},
		{"i", []int64{0}, "0"},
		{"i", []int64{-1}, "-1"},
		{"ii", []int64{math.MinInt64, math.MaxInt64}, "-9223372036854775808 9223372036854775807"},
		{"bbbbb", []int64{2, -1, math.MinInt64, 1 << 32, 0}, "true true true true false"},
		{"IB", []int64{5, 1}, "5 true"},
		{"ib", nil, "0 false"},
		{"ib", []int64{7}, "7 false"},
		{"bi", []int64{1}, "true 0"},
		{"iii", []int64{1}, "1 0 0"},
		{"ib", []int64{7, 1, 8}, "7 true"},
		{"i", []int64{7, 1, 8, 9}, "7"},
		{"", nil, "."},
		{"", []int64{0}, "."},
		{"", []int64{5, 6}, "."},
		{strings.Repeat("i", 60), []int64{1, 2}, "1 2" + strings.Repeat(" 0", 58)},
	} {
		if got := feed.Row(decls(c.kinds), c.values...); got != c.want {
			t.Errorf("Row of %q, %v: %q, want %q", c.kinds, c.values, got, c.want)
		}
	}
}

// TestPort: the words of one declaration's values.
func TestPort(t *testing.T) {
	for _, c := range []struct {
		kind   string
		values []int64
		want   string
	}{
		{"i", nil, ""},
		{"b", nil, ""},
		{"i", []int64{7}, "7"},
		{"b", []int64{1}, "true"},
		{"b", []int64{0}, "false"},
		{"i", []int64{0, -1, 10, math.MinInt64, math.MaxInt64}, "0 -1 10 -9223372036854775808 9223372036854775807"},
		{"b", []int64{0, 1, 2, -1, 0, math.MinInt64, 256}, "false true true true false true true"},
		{"I", []int64{1, 0}, "1 0"},
		{"B", []int64{1, 0}, "true false"},
	} {
		if got := feed.Port(decls(c.kind)[0], c.values...); got != c.want {
			t.Errorf("Port of %q, %v: %q, want %q", c.kind, c.values, got, c.want)
		}
	}
	if got, want := feed.Port(tree.Decl{}, make([]int64, 1000)...), strings.Repeat("0 ", 999)+"0"; got != want {
		t.Errorf("Port of 1000 noughts: %q", got)
	}
}
