package compile_test

import (
	"reflect"
	"slices"
	"testing"

	"girandole/api"
	"girandole/balance"
	"girandole/clocks"
	"girandole/code"
	"girandole/compile"
	"girandole/inits"
	"girandole/lex"
	"girandole/mach"
	"girandole/names"
	"girandole/parse"
	"girandole/runner"
	"girandole/split"
	"girandole/tree"
	"girandole/types"
)

// layered: the nodes of a text, their code, or the first fault, layer by layer.
func layered(text string) (l []tree.Node, p *code.Program, f lex.Fault) {
	if l, f = parse.Program(text); f.Err != api.OK {
		return nil, nil, f
	}
	if f = names.Check(l); f.Err != api.OK {
		return nil, nil, f
	}
	if f = types.Check(l); f.Err != api.OK {
		return nil, nil, f
	}
	if f = clocks.Check(l); f.Err != api.OK {
		return nil, nil, f
	}
	if f = inits.Check(l); f.Err != api.OK {
		return nil, nil, f
	}
	plan, f := split.Split(l)
	if f.Err != api.OK {
		return nil, nil, f
	}
	if f = balance.Check(plan); f.Err != api.OK {
		return nil, nil, f
	}
	return l, code.Lower(plan), f
}

// compiled: what Compile answers of any text, that must be as the layers have it, one by one; Nodes, too.
func compiled(t *testing.T, text string) ([]tree.Node, *code.Program, lex.Fault) {
	t.Helper()
	l, p, f := compile.Compile(text)
	nodes, want, fault := layered(text)
	if f != fault || !reflect.DeepEqual(l, nodes) || !reflect.DeepEqual(p, want) {
		t.Fatalf("Compile(%q): %d nodes, code %v, %+v; want %d, %v, %+v", text, len(l), p != nil, f, len(nodes), want != nil, fault)
	}
	if f != (lex.Fault{}) && (f.Err == api.OK || f.At < 0 || f.At > len(text)) {
		t.Fatalf("Compile(%q): %+v", text, f)
	}
	if l, f := parse.Program(text); f == (lex.Fault{}) {
		if p, f := compile.Nodes(l); f != fault || !reflect.DeepEqual(p, want) {
			t.Fatalf("Nodes of %q: code %v, %+v; want %v, %+v", text, p != nil, f, want != nil, fault)
		}
	}
	return l, p, f
}

// refused: a text has that fault, and nothing is beside it.
func refused(t *testing.T, text string, at int, err api.Errno) {
	t.Helper()
	if l, p, f := compiled(t, text); f != (lex.Fault{At: at, Err: err}) || l != nil || p != nil {
		t.Errorf("Compile(%q): %d nodes, code %v, %+v; want none, %d at %d", text, len(l), p != nil, f, err, at)
	}
}

// taken: a text has no fault, and that many workers.
func taken(t *testing.T, text string, workers int) ([]tree.Node, *code.Program) {
	t.Helper()
	l, p, f := compiled(t, text)
	if f != (lex.Fault{}) || l == nil || p.Len() != workers {
		t.Fatalf("Compile(%q): %d nodes, %+v; want %d workers", text, len(l), f, workers)
	}
	return l, p
}

// says: the workers of a program that was taken come to their end, by a script and by themselves, and write what
// its nodes mean.
func says(t *testing.T, l []tree.Node, p *code.Program, rows [][]int64) [][]int64 {
	t.Helper()
	want := sense(l, rows)
	if got := runner.Run(p, rows...); !slices.EqualFunc(got, want, slices.Equal) {
		t.Fatalf("of %v goroutines say %v, want %v of %q", rows, got, want, tree.Print(l...))
	}
	m := mach.New(p, rows...)
	for rounds := 0; !m.Done(); rounds++ {
		if rounds > p.Len()*p.Long()*len(rows) {
			t.Fatalf("of %v there is no end of %q", rows, tree.Print(l...))
		}
		for w := range p.Len() {
			m.Pick(w)
		}
	}
	for port := range want {
		if got := m.Out(port); !slices.Equal(got, want[port]) {
			t.Fatalf("of %v a machine says %v, want %v of %q", rows, got, want[port], tree.Print(l...))
		}
	}
	return want
}

// again: the canonical text of nodes has a fault of one kind with theirs, or says the same.
func again(t *testing.T, l []tree.Node, f lex.Fault, rows, said [][]int64) {
	t.Helper()
	text := tree.Print(l...)
	if len(text) > api.MaxText {
		return
	}
	nodes, p, g := compiled(t, text)
	if g.Err != f.Err {
		t.Fatalf("of the canonical text %q Compile tells %+v, want %d", text, g, f.Err)
	}
	if f.Err == api.OK && !slices.EqualFunc(says(t, nodes, p, rows), said, slices.Equal) {
		t.Fatalf("of %v the canonical text %q doesn't say %v", rows, text, said)
	}
}
