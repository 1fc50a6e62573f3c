package clocks_test

import (
	"strings"
	"testing"

	"girandole/api"
	"girandole/clocks"
	"girandole/lex"
	"girandole/names"
	"girandole/parse"
	"girandole/tree"
	"girandole/types"
)

// programOf: the nodes of a text whose types must fit.
func programOf(t *testing.T, text string) []tree.Node {
	t.Helper()
	l, f := parse.Program(text)
	if f != (lex.Fault{}) {
		t.Fatalf("Program(%q): %+v; want no fault", text, f)
	}
	if f := names.Check(l); f != (lex.Fault{}) {
		t.Fatalf("names of %q: %+v; want no fault", text, f)
	}
	if f := types.Check(l); f != (lex.Fault{}) {
		t.Fatalf("types of %q: %+v; want no fault", text, f)
	}
	return l
}

// taken: all clocks of a program fit.
func taken(t *testing.T, text string) {
	t.Helper()
	if f := clocks.Check(programOf(t, text)); f != (lex.Fault{}) {
		t.Errorf("Check(%q) = %+v, want none", text, f)
	}
}

// refused: a program has a fault at the mark "|" in its text.
func refused(t *testing.T, marked string, err api.Errno) {
	t.Helper()
	at := strings.Index(marked, "|")
	if at < 0 || strings.Count(marked, "|") > 1 {
		t.Fatalf("%q has not just one mark", marked)
	}
	text := strings.Replace(marked, "|", "", 1)
	if f, want := clocks.Check(programOf(t, text)), (lex.Fault{At: at, Err: err}); f != want {
		t.Errorf("Check(%q) = %+v, want %+v", text, f, want)
	}
}
