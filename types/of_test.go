package types_test

import (
	"strings"
	"testing"

	"girandole/tree"
	"girandole/types"
)

// typeIs: of the expression of the equation that gives to a name, in the second node.
func typeIs(t *testing.T, l []tree.Node, name, want string) {
	t.Helper()
	for _, q := range l[1].Eqs {
		if q.Left[0].Name != name {
			continue
		}
		if got := tree.TypeText(types.Of(l, l[1], q.E)); got != want {
			t.Errorf("Of(%q) = %s, want %s", tree.Text(q.E), got, want)
		}
	}
}

func TestOf(t *testing.T) {
	for e := range strings.SplitSeq(someInts, ";") {
		typeIs(t, programOf(t, of("y", e)), "y", "int")
	}
	for e := range strings.SplitSeq(someBools, ";") {
		typeIs(t, programOf(t, of("z", e)), "z", "bool")
	}
	l := programOf(t, eqs("y = 1; z = c; k = a when c; w = async ints(a); x = async waits(u);"))
	typeIs(t, l, "w", "int") // the Call itself, not what one awaits
	typeIs(t, l, "x", "bool")
}

// TestOfVar: it is what its name is declared as, in its own node, a future as well.
func TestOfVar(t *testing.T) {
	l := programOf(t, eqs("y = if waits(u) then 1 else waitsbool(a, v); z = c; k = a when c; w = async ints(a); x = async bools(c);"))
	for _, n := range l {
		for _, d := range tree.All(n) {
			if got := types.Of(l, n, tree.Expr{Kind: tree.Var, Name: d.Name}); got != d.Type {
				t.Errorf("Of %s in %s = %s, want %s", d.Name, n.Name, tree.TypeText(got), tree.TypeText(d.Type))
			}
		}
	}
}

// TestOfBelow: of all expressions of an equation.
func TestOfBelow(t *testing.T) {
	for e, want := range map[string]string{
		"if not bools(c = (1 < a)) then a else b":                                "int, bool, bool, bool, bool, bool, int, int, int, int",
		"waitsbool(-1, v) -> -a / 2":                                             "int, int, int, future bool, int, int, int, int",
		"merge c (await u) (pre 3) when d":                                       "int, int, int, int, int",
		"if waits(u) then 1 fby a else 2":                                        "int, bool, future int, int, int, int, int",
		"if true fby c -> await v after (false, true) then ints(1) else alone()": "int, bool, bool, bool, bool, bool, bool, bool, int, int, int",
	} {
		l := programOf(t, of("y", e))
		var got []string
		tree.Each(l[1].Eqs[0].E, func(e tree.Expr) { got = append(got, tree.TypeText(types.Of(l, l[1], e))) })
		if all := strings.Join(got, ", "); all != want {
			t.Errorf("Of, below %q: %s, want %s", e, all, want)
		}
	}
}

// TestArgumentsStay: what is handed in stays as it is.
func TestArgumentsStay(t *testing.T) {
	l := programOf(t, eqs("y = 1 + ints(a / 2); z = c and waits(u); k = (a -> pre a) when c; w = async waitsbool(a, v); x = async bools(c = d);"))
	before := tree.Print(l...)
	types.Check(l)
	for _, q := range l[1].Eqs {
		types.Of(l, l[1], q.E)
	}
	if after := tree.Print(l...); after != before {
		t.Errorf("afterwards the nodes are %s, before %s", after, before)
	}
}
