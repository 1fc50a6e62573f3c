package names_test

import (
	"fmt"
	"strings"
	"testing"

	"girandole/api"
	"girandole/lex"
	"girandole/names"
	"girandole/parse"
	"girandole/tree"
)

// nodesOf: the nodes of a text that must be a program.
func nodesOf(t *testing.T, text string) []tree.Node {
	t.Helper()
	l, f := parse.Program(text)
	if f != (lex.Fault{}) {
		t.Fatalf("Program(%q): %+v; want no fault", text, f)
	}
	return l
}

// taken: all names of a program mean something.
func taken(t *testing.T, text string) {
	t.Helper()
	if f := names.Check(nodesOf(t, text)); f != (lex.Fault{}) {
		t.Errorf("Check(%q) = %+v, want none", text, f)
	}
}

// refused: a program has a fault at the mark "|" in its text.
func refused(t *testing.T, marked string, err api.Errno) {
	t.Helper()
	at := strings.Index(marked, "|")
	if at < 0 || strings.Count(marked, "|") > 1 {
		t.Fatalf("%q has not just one mark", marked)
	}
	text := strings.Replace(marked, "|", "", 1)
	if f, want := names.Check(nodesOf(t, text)), (lex.Fault{At: at, Err: err}); f != want {
		t.Errorf("Check(%q) = %+v, want %+v", text, f, want)
	}
}

// row: as many texts as there are, of numbers from 0 on, with commas between.
func row(count int, format, between string) string {
	var l []string
	for i := range count {
		l = append(l, fmt.Sprintf(format, i))
	}
	return strings.Join(l, between)
}
