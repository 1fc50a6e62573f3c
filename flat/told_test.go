package flat_test

import (
	"strings"
	"testing"

	"girandole/api"
	"girandole/clocks"
	"girandole/flat"
	"girandole/inits"
	"girandole/lex"
	"girandole/names"
	"girandole/parse"
	"girandole/tree"
	"girandole/types"
)

// read: the nodes of a text, if all of them is there in time.
func read(text string) ([]tree.Node, lex.Fault) {
	l, f := parse.Program(text)
	for _, check := range []func(l []tree.Node) lex.Fault{names.Check, types.Check, clocks.Check, inits.Check} {
		if f == (lex.Fault{}) {
			f = check(l)
		}
	}
	return l, f
}

func programOf(t *testing.T, text string) []tree.Node {
	t.Helper()
	l, f := read(text)
	if f != (lex.Fault{}) {
		t.Fatalf("%q: %+v; want no fault below", text, f)
	}
	return l
}

// unitOf: that of the node of a name, of a program.
func unitOf(t *testing.T, l []tree.Node, name string) *flat.Unit {
	t.Helper()
	u, f := flat.Flatten(l, name)
	if f != (lex.Fault{}) || u == nil {
		t.Fatalf("Flatten(%q, %q) = %v, %+v, want a unit", tree.Print(l...), name, u, f)
	}
	return u
}

// sized: the node of a name has a unit of that size.
func sized(t *testing.T, text, name string, want int) {
	t.Helper()
	if got := unitOf(t, programOf(t, text), name).Size(); got != want {
		t.Errorf("Size of %q in %q = %d, want %d", name, text, got, want)
	}
}

// refused: the node of a name has a fault at the mark "|" in a program's text.
func refused(t *testing.T, marked, name string, err api.Errno) {
	t.Helper()
	at := strings.Index(marked, "|")
	if at < 0 || strings.Count(marked, "|") > 1 {
		t.Fatalf("%q has not just one mark", marked)
	}
	text := strings.Replace(marked, "|", "", 1)
	u, f := flat.Flatten(programOf(t, text), name)
	if want := (lex.Fault{At: at, Err: err}); u != nil || f != want {
		t.Errorf("Flatten(%q, %q) = %v, %+v, want %+v", text, name, u, f, want)
	}
}
