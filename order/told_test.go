package order_test

import (
	"strings"
	"testing"

	"girandole/clocks"
	"girandole/flat"
	"girandole/inits"
	"girandole/lex"
	"girandole/names"
	"girandole/order"
	"girandole/parse"
	"girandole/tree"
	"girandole/types"
)

// read: the nodes of a text, if all of them is there in time.
func read(text string) ([]tree.Node, lex.Fault) {
	l, f := parse.Program(text)
	for _, check := range []func(l []tree.Node) lex.Fault{names.Check, types.Check, clocks.Check, inits.Check} {
		if f == (lex.Fault{}) {
			f = check(l)
		}
	}
	return l, f
}

func programOf(t *testing.T, text string) []tree.Node {
	t.Helper()
	l, f := read(text)
	if f != (lex.Fault{}) {
		t.Fatalf("%q: %+v; want no fault below", text, f)
	}
	return l
}

// unitOf: that of the node of a name, of a program.
func unitOf(t *testing.T, l []tree.Node, name string) *flat.Unit {
	t.Helper()
	u, f := flat.Flatten(l, name)
	if f != (lex.Fault{}) {
		t.Fatalf("Flatten(%q, %q): %+v; want no fault below", tree.Print(l...), name, f)
	}
	return u
}

// wrong: why an order isn't one of a unit's equations, each behind those that give what it reads.
func wrong(u *flat.Unit, order []int) string {
	given := map[int]bool{}
	for _, place := range u.Ins {
		given[place] = true
	}
	for _, m := range u.Mems {
		given[m.Dst] = true
	}
	for _, w := range u.Waits {
		given[w.Dst] = true
	}
	put := map[int]bool{}
	for _, i := range order {
		if i < 0 || i >= len(u.Eqs) || put[i] {
			return "has an equation twice, or one that isn't there"
		}
		put[i] = true
		for _, a := range u.Eqs[i].Args {
			if !a.Const && !given[a.Var] {
				return "has an equation ahead of one that gives what it reads"
			}
		}
		for _, g := range u.Eqs[i].On {
			if !given[g.Var] {
				return "has an equation ahead of one that gives a guard of it"
			}
		}
		given[u.Eqs[i].Dst] = true
	}
	if len(order) < len(u.Eqs) {
		return "has not all equations"
	}
	return ""
}

// unmarked: a text without its mark "|", and where that stood.
func unmarked(t *testing.T, marked string) (string, int) {
	t.Helper()
	if strings.Count(marked, "|") != 1 {
		t.Fatalf("%q has not just one mark", marked)
	}
	return strings.Replace(marked, "|", "", 1), strings.Index(marked, "|")
}

// sorted: what is answered of the unit of a node, if that is an order or none at all.
func sorted(t *testing.T, u *flat.Unit) ([]int, lex.Fault) {
	t.Helper()
	l, f := order.Sort(u)
	if f != (lex.Fault{}) {
		if l != nil {
			t.Errorf("Sort of %q = %v beside %+v", u.Node, l, f)
		}
	} else if why := wrong(u, l); why != "" {
		t.Errorf("Sort of %q = %v %s", u.Node, l, why)
	}
	return l, f
}
