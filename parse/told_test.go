package parse_test

import (
	"fmt"
	"strings"
	"testing"

	"girandole/api"
	"girandole/lex"
	"girandole/parse"
	"girandole/tree"
)

// told: all that an expression has, each with its place: kind@At, N, "not", Name, and the kids in [ ].
func told(e tree.Expr) string {
	kinds := strings.Fields("None Int Bool Var Neg Not Binary If Arrow Fby Pre When Merge Call Await")
	s := fmt.Sprintf("%s@%d", kinds[e.Kind], e.At)
	if tree.Const(e) || e.N != 0 {
		s += fmt.Sprintf(" %d", e.N)
	}
	if e.Off {
		s += " not"
	}
	if e.Name != "" {
		s += " " + e.Name
	}
	for _, k := range e.Kids {
		s += " [" + told(k) + "]"
	}
	return s
}

// placeless: an expression without places, and without the difference between no kids and none.
func placeless(e tree.Expr) tree.Expr {
	var kids []tree.Expr
	for _, k := range e.Kids {
		kids = append(kids, placeless(k))
	}
	e.At, e.Kids = 0, kids
	return e
}

// exprOf: the expression of a text that must have one.
func exprOf(t *testing.T, text string) tree.Expr {
	t.Helper()
	e, f := parse.Expr(text)
	if f != (lex.Fault{}) {
		t.Fatalf("Expr(%q): %+v; want no fault", text, f)
	}
	return e
}

// nodesOf: the nodes of a text that must be a program.
func nodesOf(t *testing.T, text string) []tree.Node {
	t.Helper()
	l, f := parse.Program(text)
	if f != (lex.Fault{}) {
		t.Fatalf("Program(%q): %+v; want no fault", text, f)
	}
	return l
}

// toldAs: an expression's text is read as that.
func toldAs(t *testing.T, text, want string) {
	t.Helper()
	if got := told(exprOf(t, text)); got != want {
		t.Errorf("Expr(%q) = %s, want %s", text, got, want)
	}
}

// readAs: an expression's text is read as another that has brackets, but for places.
func readAs(t *testing.T, text, bracketed string) {
	t.Helper()
	got, want := told(placeless(exprOf(t, text))), told(placeless(exprOf(t, bracketed)))
	if got != want {
		t.Errorf("Expr(%q) = %s, want that of %q: %s", text, got, bracketed, want)
	}
}

// exprRefused: a text is no expression, and nothing is beside that.
func exprRefused(t *testing.T, text string, at int, err api.Errno) {
	t.Helper()
	e, f := parse.Expr(text)
	if f != (lex.Fault{At: at, Err: err}) || told(e) != "None@0" {
		t.Errorf("Expr(%q) = %s, %+v; want none, %d at %d", text, told(e), f, err, at)
	}
}

// programRefused: likewise of a program.
func programRefused(t *testing.T, text string, at int, err api.Errno) {
	t.Helper()
	l, f := parse.Program(text)
	if f != (lex.Fault{At: at, Err: err}) || len(l) != 0 {
		t.Errorf("Program(%q) = %d nodes, %+v; want none, %d at %d", text, len(l), f, err, at)
	}
}

// inNode: a node in which an equation gives an expression to y; eqAt is where that begins.
func inNode(e string) string {
	return "node f() returns () let y = " + e
}

const eqAt = len("node f() returns () let y = ")
