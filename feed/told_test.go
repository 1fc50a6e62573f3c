package feed_test

import (
	"slices"
	"strings"
	"testing"

	"girandole/api"
	"girandole/feed"
	"girandole/tree"
)

// decls: a declaration for each letter: i an int, b a bool, I and B futures of them.
func decls(kinds string) []tree.Decl {
	var l []tree.Decl
	for i, k := range kinds {
		t := tree.Type{Bool: strings.ContainsRune("bB", k), Future: strings.ContainsRune("IB", k)}
		l = append(l, tree.Decl{Name: string(rune('a' + i%26)), At: i, Type: t})
	}
	return l
}

// nodeOf: a node with those Ins, and with others that say nothing of what comes in.
func nodeOf(kinds string) tree.Node {
	return tree.Node{Name: "f", Ins: decls(kinds), Outs: decls("bib"), Vars: decls("iB")}
}

// taken: a text has those rows.
func taken(t *testing.T, kinds, text string, want ...[]int64) {
	t.Helper()
	l, at, err := feed.Parse(nodeOf(kinds), text)
	if !slices.EqualFunc(l, want, slices.Equal) || at != -1 || err != api.OK {
		t.Errorf("Parse of %.200q for %q: %v, %d, %d; want %v, -1, no error", text, kinds, l, at, err, want)
	}
}

// refused: a text has that error at that line, and nothing is beside it.
func refused(t *testing.T, kinds, text string, line int, want api.Errno) {
	t.Helper()
	l, at, err := feed.Parse(nodeOf(kinds), text)
	if l != nil || at != line || err != want {
		t.Errorf("Parse of %.200q for %q: %v, %d, %d; want no rows, %d, %d", text, kinds, l, at, err, line, want)
	}
}
