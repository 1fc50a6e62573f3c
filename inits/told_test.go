package inits_test

import (
	"strings"
	"testing"

	"girandole/api"
	"girandole/clocks"
	"girandole/inits"
	"girandole/lex"
	"girandole/names"
	"girandole/parse"
	"girandole/tree"
	"girandole/types"
)

// programOf: the nodes of a text whose clocks must fit.
func programOf(t *testing.T, text string) []tree.Node {
	t.Helper()
	l, f := parse.Program(text)
	if f != (lex.Fault{}) {
		t.Fatalf("Program(%q): %+v; want no fault", text, f)
	}
	for _, check := range []func(l []tree.Node) lex.Fault{names.Check, types.Check, clocks.Check} {
		if f := check(l); f != (lex.Fault{}) {
			t.Fatalf("%q: %+v; want no fault below", text, f)
		}
	}
	return l
}

// taken: in a program all is there in time.
func taken(t *testing.T, text string) {
	t.Helper()
	if f := inits.Check(programOf(t, text)); f != (lex.Fault{}) {
		t.Errorf("Check(%q) = %+v, want none", text, f)
	}
}

// refused: a program has its fault at the mark "|" in its text.
func refused(t *testing.T, marked string) {
	t.Helper()
	at := strings.Index(marked, "|")
	if at < 0 || strings.Count(marked, "|") > 1 {
		t.Fatalf("%q has not just one mark", marked)
	}
	text := strings.Replace(marked, "|", "", 1)
	if f, want := inits.Check(programOf(t, text)), (lex.Fault{At: at, Err: api.ErrInit}); f != want {
		t.Errorf("Check(%q) = %+v, want %+v", text, f, want)
	}
}
