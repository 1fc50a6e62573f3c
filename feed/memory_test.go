package feed_test

import (
	"slices"
	"testing"

	"girandole/api"
	"girandole/feed"
	"girandole/tree"
)

// TestApart: rows share no memory with each other, nor with another answer.
func TestApart(t *testing.T) {
	n, want := nodeOf("ib"), [][]int64{{7, 1}, {8, 0}, {9, 1}}
	const text = "7 true\n8 false\n9 true"
	first, _, _ := feed.Parse(n, text)
	second, _, _ := feed.Parse(n, text)
	for i := range first {
		_ = append(first[i], 55)
		first[i][0] = 66
		if i+1 < len(first) && !slices.Equal(first[i+1], want[i+1]) {
			t.Errorf("with row %d the next one became %v", i, first[i+1])
		}
	}
	clear(first)
	if !slices.EqualFunc(second, want, slices.Equal) {
		t.Errorf("another answer is now %v, want %v", second, want)
	}
	taken(t, "ib", text, want...)
}

// TestStays: what is handed in stays as it is.
func TestStays(t *testing.T) {
	n := nodeOf("ib")
	for _, text := range []string{"7 true", "7", "x"} {
		feed.Parse(n, text)
	}
	if !slices.Equal(n.Ins, decls("ib")) || !slices.Equal(n.Outs, decls("bib")) || !slices.Equal(n.Vars, decls("iB")) {
		t.Errorf("the node is now %v", n)
	}
	l, values := decls("ibb"), []int64{7, 5, 0, 9}
	feed.Row(l, values[:2]...)
	feed.Row(l[:1], values...)
	feed.Port(l[1], values...)
	if !slices.Equal(l, decls("ibb")) || !slices.Equal(values, []int64{7, 5, 0, 9}) {
		t.Errorf("declarations are now %v, values %v", l, values)
	}
	if got := feed.Row(l, values[:2]...); got != "7 true false" { // what stands behind a list's end is wanting
		t.Errorf("Row: %q", got)
	}
}

// TestSameAgain: an answer hangs on what was handed in alone.
func TestSameAgain(t *testing.T) {
	for range 10 {
		taken(t, "ib", "7 true\n", []int64{7, 1})
		refused(t, "ib", "7 true\n7 tru", 1, api.ErrForm)
		taken(t, "", ".", nil)
		if feed.Row(nil) != "." || feed.Row([]tree.Decl{}, 5) != "." || feed.Port(tree.Decl{}) != "" {
			t.Errorf("Row of nothing: %q, Port: %q", feed.Row(nil), feed.Port(tree.Decl{}))
		}
	}
}
