package parse_test

import (
	"reflect"
	"strings"
	"testing"

	"girandole/tree"
)

// whole has each line of the grammar that is above expressions.
const whole = `node f(a: int, u: future bool) returns (y: int, z: bool)
var t: int when not c; c: bool; w: future int when c;
let
  (y, t, z) = g(a);
  c = async h(a, u);
  w = a -> 5;
tel
node g() returns ()
let
tel
`

func TestProgramReadsWhatStandsThere(t *testing.T) {
	name := func(s string, at int) tree.Expr { return tree.Expr{Kind: tree.Var, Name: s, At: at} }
	at := func(s string) int { return strings.Index(whole, s) }
	f := tree.Node{
		Name: "f", At: 5,
		Ins:  []tree.Decl{{Name: "a", At: 7}, {Name: "u", At: 15, Type: tree.Type{Bool: true, Future: true}}},
		Outs: []tree.Decl{{Name: "y", At: at("y: int")}, {Name: "z", At: at("z: bool"), Type: tree.Type{Bool: true}}},
		Vars: []tree.Decl{
			{Name: "t", At: at("t: int when"), Clock: "c", Off: true},
			{Name: "c", At: at("c: bool"), Type: tree.Type{Bool: true}},
			{Name: "w", At: at("w: future"), Type: tree.Type{Future: true}, Clock: "c"},
		},
		Eqs: []tree.Eq{
			{Left: []tree.Left{{Name: "y", At: at("y, t, z")}, {Name: "t", At: at("t, z) = ")}, {Name: "z", At: at("z) = ")}}, E: tree.Expr{Kind: tree.Call, Name: "g", At: at("g(a)"), Kids: []tree.Expr{name("a", at("a);"))}}},
			{Left: []tree.Left{{Name: "c", At: at("c = async")}}, Async: true, E: tree.Expr{Kind: tree.Call, Name: "h", At: at("h(a"), Kids: []tree.Expr{name("a", at("a, u)")), name("u", at("u);"))}}},
			{Left: []tree.Left{{Name: "w", At: at("w = a")}}, E: tree.Expr{Kind: tree.Arrow, At: at("->"), Kids: []tree.Expr{name("a", at("a ->")), {Kind: tree.Int, N: 5, At: at("5;")}}}},
		},
	}
	l := nodesOf(t, whole)
	if len(l) != 2 || !reflect.DeepEqual(l[0], f) {
		t.Errorf("Program = %+v, want first %+v", l, f)
	}
	if g := l[len(l)-1]; g.Name != "g" || g.At != at("g() returns") || len(g.Ins)+len(g.Outs)+len(g.Vars)+len(g.Eqs) != 0 {
		t.Errorf("Program's last node = %+v", g)
	}
}

func TestProgramsInOtherDress(t *testing.T) {
	want := tree.Print(nodesOf(t, whole)...)
	if want != whole {
		t.Errorf("Print of what is read = %q, want %q", want, whole)
	}
	for name, text := range map[string]string{
		"remarks": strings.ReplaceAll(whole, "\n", "-- x ? 07 \n\t"),
		"blanks":  "\n\t " + strings.ReplaceAll(whole, " ", " \n\t ") + "-- the end",
		"close":   strings.NewReplacer("\n", " ", ", ", ",", ": ", ":", " = ", "=", "; ", ";", " -> ", "->").Replace(whole),
		"more":    strings.NewReplacer("a -> 5", "((a) -> (5))", "g(a)", "(g((a)))").Replace(whole),
	} {
		if got := tree.Print(nodesOf(t, text)...); got != want {
			t.Errorf("Print of the program with %s = %q, want %q", name, got, want)
		}
	}
}

func TestManyNodesAndNames(t *testing.T) {
	const one = "node f() returns () let tel "
	if l := nodesOf(t, strings.Repeat(one, 100)); len(l) != 100 || l[99].At != 99*len(one)+5 {
		t.Errorf("%d nodes, the last at %d", len(l), l[len(l)-1].At)
	}
	l := nodesOf(t, "node f("+strings.Repeat("a:int,", 299)+"a:bool) returns () let tel")
	if len(l[0].Ins) != 300 || !l[0].Ins[299].Type.Bool {
		t.Errorf("%d names come in", len(l[0].Ins))
	}
	l = nodesOf(t, "node f() returns () let "+strings.Repeat("a=1;", 300)+"tel")
	if len(l[0].Eqs) != 300 || l[0].Eqs[299].E.At != 24+299*4+2 {
		t.Errorf("%d equations", len(l[0].Eqs))
	}
}

func TestListsOfAnAnswerShareNothing(t *testing.T) {
	l, same := nodesOf(t, whole), nodesOf(t, whole)
	for _, n := range l {
		_ = append(append(n.Ins[:len(n.Ins):cap(n.Ins)], tree.Decl{Name: "more"}), n.Vars...)
		_ = append(n.Outs, tree.Decl{Name: "more"})
		_ = append(n.Vars, tree.Decl{Name: "more"})
		for _, q := range n.Eqs {
			_ = append(q.Left, tree.Left{Name: "more"})
			_ = append(q.E.Kids, tree.Expr{Kind: tree.Var, Name: "more"})
		}
	}
	if !reflect.DeepEqual(l, same) {
		t.Errorf("what is appended to one list shows in another: %+v", l)
	}
	l[0].Ins[0].Name, l[0].Eqs[0].E.Kids[0].Name = "scribbled", "scribbled"
	if again := nodesOf(t, whole); !reflect.DeepEqual(again, same) {
		t.Error("what is written into an answer shows in a later one")
	}
}
