package names_test

import (
	"slices"
	"strings"
	"testing"

	"girandole/api"
	"girandole/names"
	"girandole/tree"
)

// others: nodes that are called: of one thing, of two, of none, without anything that comes in.
const others = `
node one(a: int) returns (y: int) let y = a; tel
node two(a: int, b: int) returns (y: int, z: int) let y = a; z = b; tel
node none(a: int) returns () let tel
node alone() returns (y: int) let y = 1; tel
`

// f: a node with names of each kind, and what stands behind "let", and then the others.
func f(eqs string) string {
	return "node f(a: int, c: bool) returns (y: int) var v: int when c; w: int when not v; let " + eqs + " tel" + others
}

const rest = " v = 1; w = 2;" // the equations of f that aren't looked at

func TestTaken(t *testing.T) {
	for _, e := range []string{
		"1", "true", "a", "y", "v", "-a", "not c", "a + y * w", "if c then a else v", "a -> v", "1 fby y", "pre y", "a when c", "a when not v",
		"merge c (a) (w)", "merge y (y) (y)", "one(a)", "one(one(1)) + one(alone())", "alone()", "one(if c then alone() else one(w))",
		"await v", "await a after (1, true)", "await y",
	} {
		taken(t, f("y = "+e+";"+rest))
		taken(t, f(rest+"y = "+e+";"))
	}
	for _, eqs := range []string{
		"y = async one(a);" + rest, "(y, v) = two(a, one(a)); w = 1;", "(w, y) = async two(alone(), 2); v = 1;", "w = v; v = y; y = w;",
	} {
		taken(t, f(eqs))
	}
	for _, text := range []string{
		"node f() returns () let tel", "node f(f: int) returns () let tel", "node f(a: int) returns (y: int) let y = a; tel node y() returns () let tel node a() returns () let tel",
		"node f() returns () var v: int when v; let v = 1; tel", "node f() returns () var v: int when w; w: bool; let v = 1; w = true; tel",
		"node f(a: int) returns (y: int) let y = one(a); tel node g() returns () let tel" + others,
	} {
		taken(t, text)
	}
}

func TestNoNodes(t *testing.T) {
	if f := names.Check(nil); f.Err != api.OK || f.At != 0 {
		t.Errorf("Check(nil) = %+v", f)
	}
}

func TestNodesLimit(t *testing.T) {
	node := "node f%d() returns () let tel "
	taken(t, row(20, node, ""))
	refused(t, row(20, node, "")+"node |g() returns () let tel", api.ErrLimits)
	refused(t, row(20, node, "")+"node |f0() returns () let tel"+others, api.ErrLimits)
	refused(t, strings.Repeat("node f() returns (y: int) let tel ", 20)+"node |f() returns () let tel", api.ErrLimits)
}

func TestNodesTwice(t *testing.T) {
	refused(t, "node f() returns () let tel node |f() returns () let tel", api.ErrTwice)
	refused(t, "node f() returns () let tel node g() returns () let tel node |f() returns () let tel node g() returns () let tel", api.ErrTwice)
	refused(t, "node g() returns () let tel node f() returns () let tel node |f() returns () let tel node g() returns () let tel", api.ErrTwice)
	refused(t, "node f() returns (y: int) let y = f(); tel node |f() returns (y: int) let tel", api.ErrTwice)
}

func TestNamesLimit(t *testing.T) {
	ints, eqs := func(n int, name string) string { return row(n, name+"%d: int", ", ") }, func(n int, name string) string { return row(n, name+"%d = 1;", "") }
	taken(t, "node f("+ints(60, "a")+") returns () let tel")
	refused(t, "node |f("+ints(61, "a")+") returns () let tel", api.ErrLimits)
	taken(t, "node f() returns ("+ints(60, "y")+") let "+eqs(60, "y")+" tel")
	refused(t, "node |f() returns ("+ints(61, "y")+") let "+eqs(60, "y")+" tel", api.ErrLimits)
	vars := func(n int) string { return " var " + row(n, "v%d: int;", "") + " let " + eqs(n, "v") }
	taken(t, "node f() returns () "+vars(60)+" tel")
	refused(t, "node |f() returns () "+vars(61)+" tel", api.ErrLimits)
	taken(t, "node f("+ints(20, "a")+") returns ("+ints(20, "y")+") "+vars(20)+eqs(20, "y")+" tel")
	refused(t, "node |f("+ints(20, "a")+") returns ("+ints(20, "y")+") "+vars(21)+eqs(20, "y")+" tel", api.ErrLimits)
	refused(t, "node |f("+strings.Repeat("a: int, ", 60)+"a: int) returns () let tel", api.ErrLimits)
	refused(t, "node g() returns () let tel node |f("+ints(61, "a")+") returns () let y = 1; tel", api.ErrLimits)
}

func TestEqsLimit(t *testing.T) {
	refused(t, "node f() returns (y: int) let y = 1; |y = 1;"+strings.Repeat("y = 1;", 58)+" tel", api.ErrTwice)
	refused(t, "node |f() returns (y: int) let "+strings.Repeat("y = 1;", 61)+" tel", api.ErrLimits)
	refused(t, "node |f(a: int, a: int) returns (y: int) let "+strings.Repeat("z = 1;", 61)+" tel", api.ErrLimits)
}

func TestNamesTwice(t *testing.T) {
	for _, text := range []string{
		"node f(a: int, |a: bool) returns () let tel", "node f(a: int) returns (|a: int) let tel", "node f(a: int) returns () var |a: int; let a = 1; tel",
		"node f() returns (y: int, |y: int) let y = 1; tel", "node f() returns (y: int) var |y: int; let y = 1; tel",
		"node f() returns () var v: int; w: int; |v: int; w: int; let v = 1; w = 1; tel", "node f(a: int, b: int) returns (|b: int, a: int) let tel",
		"node f() returns () var v: int when x; |v: int; let tel", // ahead of clocks
	} {
		refused(t, text, api.ErrTwice)
	}
}

func TestClockNames(t *testing.T) {
	for _, text := range []string{
		"node f(a: int) returns () var |v: int when b; let tel", "node f(a: int) returns () var |v: int when not b; let v = 1; tel",
		"node f(c: bool) returns () var v: int when c; |w: int when f; let v = 1; w = 1; tel",
		"node f(c: bool) returns () var |v: int when d; w: int when e; let x = 1; tel", // ahead of equations
	} {
		refused(t, text, api.ErrName)
	}
}

func TestLeftNames(t *testing.T) {
	refused(t, f("|x = 1;"+rest), api.ErrName)
	refused(t, f("|a = 1;"+rest), api.ErrName) // what comes in
	refused(t, f("|f = 1;"+rest), api.ErrName)
	refused(t, f("(y, |x) = two(1, 2);"+rest), api.ErrName)
	refused(t, f("(|x, z) = two(1, 2);"+rest), api.ErrName)
	refused(t, f("(y, |a) = two(q);"), api.ErrName) // ahead of its expression
	refused(t, f("y = 1; |x = q; z = 1;"), api.ErrName)
}

func TestNamesOfExpressions(t *testing.T) {
	for _, e := range []string{
		"|b", "-|b", "not |b", "a + |b", "|b + d", "if |b then d else e", "a -> |b", "1 fby |b", "pre |b", "a |when b", "a |when not b", "b |when d", "b |when d when c", "(|b + d) when c",
		"|merge b (a) (a)", "|merge b (d) (e)", "merge c (|b) (d)", "merge c (a) (|d)", "|await b", "|await b after (1)", "one(|b)", "two(a, |b)",
		"|g(a)", "|g()", "|g(b)", "one(|g(a))", "|f", "|one", "|b(a)", "|y(a)",
	} {
		refused(t, f("y = "+e+";"+rest), api.ErrName)
		refused(t, f("v = 1; y = "+e+"; x = 1; w = 2;"), api.ErrName)
	}
	refused(t, f("y = async |g(a);"+rest), api.ErrName)
	refused(t, f("(y, v) = |g(b); w = 1;"), api.ErrName)
}

func TestKidsOfCalls(t *testing.T) {
	for _, e := range []string{
		"|one()", "|one(a, a)", "|alone(a)", "|two(a)", "|two(a, a, a)", "|none()", "one(|one())", "1 + |one(1, 2)", "|one(b, d)", "one(|one())", "|f(a)", "|alone(g())",
		"|one(alone(a), a)",
	} {
		refused(t, f("y = "+e+";"+rest), api.ErrMany)
	}
	refused(t, f("y = async |one();"+rest), api.ErrMany)
	refused(t, f("(y, v) = |two(a); w = 1;"), api.ErrMany)
	refused(t, f("y = one(|b) + one();"), api.ErrName) // the first that is met
	refused(t, f("y = |one() + one(b);"), api.ErrMany)
}

func TestThingsOfEquations(t *testing.T) {
	for _, eq := range []string{
		"y = |two(a, a);", "y = async |two(a, a);", "y = |none(a);", "(y, v) = |one(a);", "(y, v) = |none(a);", "(y, v) = async |one(a);", "(y, v, w) = |two(a, a);",
		"(y, v) = |1;", "(y, v) = |a;", "(y, v) = a |+ a;", "(y, v) = |if c then a else a;", "(y, v) = |-two(1, 2);", "(y, v) = 1 |-> two(1, 2);", "(y, v) = |one(two(1, 2));",
		"(y, v) = two(1, 2) |when c;", "(y, v) = |pre two(1, 2);", "(y, y) = |one(1);",
	} {
		refused(t, f(eq), api.ErrMany)
	}
}

func TestThingsOfCalls(t *testing.T) {
	for _, eq := range []string{
		"y = a + |two(a, a);", "y = -|two(a, a);", "y = one(|two(a, a));", "y = one(|none(a));", "(y, v) = two(|two(1, 2), two(1, 2));", "(y, v) = two(1, |none(1));",
		"y = if c then |none(1) else two(1, 2);", "y = one(|two(none(1), none(2)));", "y = one(one(|two(none(1), 1)));", "y = async one(|two(a, a));",
		"y = |two(1, 2) when c;", "y = merge c (a) (|none(a));", "y = 1 -> |two(1, 2);", "y = pre |none(1);", "y = 1 fby |none(1);", "y = one(1 + |none(one(1)));",
	} {
		refused(t, f(eq), api.ErrMany)
		refused(t, f(eq+" x = 1;"), api.ErrMany)
	}
	refused(t, f("y = two(1, 2) + |b;"), api.ErrName) // names of the whole expression come first
}

func TestGivenTwice(t *testing.T) {
	for _, eqs := range []string{
		"y = 1; |y = 2;", "y = 1; v = 1; |y = 2; v = 1;", "y = 1; v = 1; |v = 2; y = 1;", "(y, |y) = two(1, 2);", "(y, v) = two(1, 2); (w, |v) = two(1, 2);",
		"y = 1; (w, |y) = two(1, 2); w = 1;",
	} {
		refused(t, f(eqs), api.ErrTwice)
	}
	refused(t, f("y = 1; y = 2; |x = 1;"), api.ErrName) // each equation by itself comes first
	refused(t, f("y = 1; y = |b;"), api.ErrName)
}

func TestNotGiven(t *testing.T) {
	for _, text := range []string{
		"node f(a: int) returns (|y: int) let tel", "node f() returns (y: int, |z: int) let y = 1; tel", "node f() returns (|y: int, z: int) let z = 1; tel",
		"node f() returns (|y: int) var v: int; let tel", "node f() returns (y: int) var |v: int; w: int; let y = 1; tel",
		"node f() returns (y: int) var v: int; |w: int; let (y, v) = two(1, 2); tel" + others, "node f() returns (|y: int) var v: int; let v = y; tel",
	} {
		refused(t, text, api.ErrName)
	}
}

func TestCycle(t *testing.T) {
	node := func(name, called string) string {
		return "node " + name + "(a: int) returns (y: int) let y = " + called + "; tel "
	}
	refused(t, node("|f", "f(a)"), api.ErrCycle)
	refused(t, node("|f", "1 -> pre f(a)"), api.ErrCycle)
	refused(t, node("|f", "async f(a)"), api.ErrCycle)
	refused(t, node("f", "g(a)")+node("|g", "g(a)"), api.ErrCycle)
	refused(t, node("|f", "g(a)")+node("g", "h(a)")+node("h", "1 + f(a)"), api.ErrCycle)
	refused(t, node("f", "g(a)")+node("|h", "1 + g(a)")+node("g", "h(a)"), api.ErrCycle)
	refused(t, node("f", "k(a)")+node("k", "h(g(a))")+node("|h", "one(h(a))")+node("g", "g(a)")+others, api.ErrCycle)
	refused(t, node("f", "1")+node("|h", "one(a) + h(a)")+others, api.ErrCycle)
	taken(t, node("f", "g(h(a)) + h(g(a))")+node("g", "h(a) + k(a)")+node("h", "k(k(a))")+node("k", "a"))
	taken(t, node("k", "a")+node("h", "k(k(a))")+node("g", "h(a) + k(a)")+node("f", "g(h(a)) + h(g(a))"))
	refused(t, node("f", "f(a)")+node("g", "|b"), api.ErrName) // nodes by themselves come first
	refused(t, node("f", "g(a)")+node("g", "f(a)")+"node h() returns (|y: int) let tel", api.ErrName)
}

func TestNodeByNode(t *testing.T) {
	refused(t, "node f(a: int) returns (|y: int) let tel node g(a: int, a: int) returns () let tel", api.ErrName)
	refused(t, "node f(a: int) returns () let tel node g(a: int, |a: int) returns () let tel node h("+row(61, "a%d:int", ",")+") returns () let tel", api.ErrTwice)
}

func TestCalls(t *testing.T) {
	for eqs, want := range map[string][]string{
		"": nil, "y = a;": nil, "y = g;": nil, "y = await g;": nil, "y = a when g;": nil, "y = f(a);": {"f"}, "y = async g(a);": {"g"}, "y = g(h(g(k(a)), h()), k());": {"g", "h", "k"},
		"y = h(1) + g(k(1)); z = k(g(l()));": {"h", "g", "k", "l"}, "y = 1; z = -h(if g() then k() else m() -> n());": {"h", "g", "k", "m", "n"},
		"y = merge g (h()) (k()); z = not pre (1 fby l()) when g;": {"h", "k", "l"}, "(y, z) = g(1); (y, z) = async g(2); y = b(a());": {"g", "b", "a"},
	} {
		n := nodesOf(t, "node f(a: int) returns () let "+eqs+" tel")[0]
		if got := names.Calls(n); !slices.Equal(got, want) {
			t.Errorf("Calls of %q = %q, want %q", eqs, got, want)
		}
	}
	if got := names.Calls(tree.Node{}); len(got) != 0 {
		t.Errorf("Calls of nothing = %q", got)
	}
}

// TestArgumentsStay: what is handed in stays as it is, and answers are one's own.
func TestArgumentsStay(t *testing.T) {
	l := nodesOf(t, f("(y, v) = two(one(a), 1 -> await a after (1)); w = pre one(b) when c;"))
	before := tree.Print(l...)
	got := names.Calls(l[0])
	names.Check(l)
	if tree.Print(l...) != before {
		t.Errorf("after Check the nodes are %s, before %s", tree.Print(l...), before)
	}
	got[0] = "other"
	if again := names.Calls(l[0]); !slices.Equal(again, []string{"two", "one"}) {
		t.Errorf("Calls, again: %q", again)
	}
}
