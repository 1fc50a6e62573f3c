package compile_test

import (
	"reflect"
	"testing"

	"girandole/compile"
	"girandole/lex"
	"girandole/parse"
	"girandole/tree"
)

// spoil makes zeros of all that can be reached, but for what is hidden.
func spoil(v reflect.Value) {
	switch v.Kind() {
	case reflect.Pointer:
		spoil(v.Elem())
	case reflect.Struct:
		for i := range v.NumField() {
			spoil(v.Field(i))
		}
	case reflect.Slice:
		for i := range v.Len() {
			spoil(v.Index(i))
		}
	}
	if v.CanSet() {
		v.SetZero()
	}
}

func nodesOf(t *testing.T, text string) []tree.Node {
	t.Helper()
	l, f := parse.Program(text)
	if f != (lex.Fault{}) {
		t.Fatalf("Program(%q): %+v", text, f)
	}
	return l
}

// TestNodesStay: nodes that are handed in aren't changed, nor kept.
func TestNodesStay(t *testing.T) {
	for _, text := range wholes {
		l := nodesOf(t, text)
		p, f := compile.Nodes(l)
		if f != (lex.Fault{}) {
			t.Fatalf("Nodes of %q: %+v", text, f)
		}
		if want := nodesOf(t, text); !reflect.DeepEqual(l, want) {
			t.Errorf("nodes of %q are now %+v", text, l)
		}
		spoil(reflect.ValueOf(l))
		if want, _ := compile.Nodes(nodesOf(t, text)); !reflect.DeepEqual(p, want) {
			t.Errorf("without its nodes the code of %q is %+v, want %+v", text, p, want)
		}
	}
}

// TestApart: nodes and code that are answered share no memory with each other, nor with other answers.
func TestApart(t *testing.T) {
	for _, text := range wholes {
		l, p, _ := compile.Compile(text)
		nodes, again, _ := compile.Compile(text)
		spoil(reflect.ValueOf(p))
		if !reflect.DeepEqual(l, nodesOf(t, text)) {
			t.Errorf("without the code the nodes of %q are %+v", text, l)
		}
		spoil(reflect.ValueOf(l))
		if want, _ := compile.Nodes(nodesOf(t, text)); !reflect.DeepEqual(again, want) || !reflect.DeepEqual(nodes, nodesOf(t, text)) {
			t.Errorf("without another answer that of %q is %+v, %+v", text, nodes, again)
		}
	}
}
