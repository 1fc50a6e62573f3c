package solo_test

import (
	"slices"
	"testing"

	"girandole/clocks"
	"girandole/flat"
	"girandole/inits"
	"girandole/lex"
	"girandole/names"
	"girandole/order"
	"girandole/parse"
	"girandole/solo"
	"girandole/tree"
	"girandole/types"
)

// read: the nodes of a text, if all of them is there in time.
func read(text string) ([]tree.Node, lex.Fault) {
	l, f := parse.Program(text)
	for _, check := range []func(l []tree.Node) lex.Fault{names.Check, types.Check, clocks.Check, inits.Check} {
		if f == (lex.Fault{}) {
			f = check(l)
		}
	}
	return l, f
}

// ordered: the unit of the first node of a text, and the order of its equations.
func ordered(t *testing.T, text string) (*flat.Unit, []int) {
	t.Helper()
	l, f := read(text)
	if f != (lex.Fault{}) {
		t.Fatalf("%q: %+v; want no fault below", text, f)
	}
	u, f := flat.Flatten(l, l[0].Name)
	if f != (lex.Fault{}) {
		t.Fatalf("Flatten(%q): %+v; want no fault below", text, f)
	}
	o, f := order.Sort(u)
	if f != (lex.Fault{}) {
		t.Fatalf("Sort of %q: %+v; want no fault below", text, f)
	}
	return u, o
}

func soloOf(t *testing.T, text string) *solo.Solo {
	t.Helper()
	u, o := ordered(t, text)
	return solo.New(u, o)
}

// instants: what a text's first node says, row by row.
func instants(t *testing.T, text string, rows [][]int64) [][]int64 {
	t.Helper()
	s := soloOf(t, text)
	var l [][]int64
	for _, row := range rows {
		l = append(l, s.Step(row...))
	}
	return l
}

// tells: a text's first node says that, row by row.
func tells(t *testing.T, text string, rows, want [][]int64) {
	t.Helper()
	if got := instants(t, text, rows); !slices.EqualFunc(got, want, slices.Equal) {
		t.Errorf("of %v %q says %v, want %v", rows, text, got, want)
	}
}
