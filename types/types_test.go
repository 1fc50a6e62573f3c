package types_test

import (
	"strings"
	"testing"

	"girandole/api"
	"girandole/lex"
	"girandole/parse"
	"girandole/types"
)

// others: nodes that are called: an int comes to them, a truth, both, nothing, a future.
const others = `
node ints(a: int) returns (y: int) let y = a; tel
node bools(c: bool) returns (y: bool) let y = c; tel
node both(a: int, c: bool) returns (y: int, z: bool) let y = a; z = c; tel
node alone() returns (y: int) let y = 1; tel
node waits(u: future int) returns (y: bool) let y = await u < 1; tel
node waitsbool(a: int, v: future bool) returns (y: int) let y = if await v then a else 1; tel
`

// declared: the names of the node that is looked at. It isn't the first one, so that futures may come to it.
const declared = "(a: int, b: int, c: bool, d: bool, u: future int, v: future bool) returns (y: int, z: bool)"

// of: a program in which an expression is given to y, an int, or to z, a truth.
func of(name, e string) string {
	if name == "y" {
		return "node f() returns () let tel node g" + declared + " let y = " + e + "; z = true; tel" + others
	}
	return "node f() returns () let tel node g" + declared + " let z = " + e + "; y = 1; tel" + others
}

// eqs: a program with these equations, in a node that has more names.
func eqs(l string) string {
	return "node f() returns () let tel node g" + declared + " var w: future int; x: future bool; k: int when c; let " + l + " tel" + others
}

const someInts = "0;a;y;-a;- -b;-(1);a + b;a - b;a * b;a / 2;a mod 7;a / -1;a / 9223372036854775807;a mod -9223372036854775808;a / (2);if c then a else b;" +
	"a -> b;1 fby a;pre a;a when c;a when not z;merge c (a) (b);ints(a);ints(if d then 1 else ints(2));alone();waitsbool(a, v);await u;await u after (1, -2);" +
	"await u after (1, 2, 3, 4, 5, 6, 7, 8);(if c = d then a else b) / 3;0 -> pre (y + 1)"

const someBools = "true;c;z;not c;c and d;c or d;c xor d;a = b;c = d;a <> b;c <> d;a < b;a <= b;a > b;a >= b;if c then d else z;c -> d;false fby c;pre c;" +
	"d when c;d when not c;merge c (c) (d);bools(c);bools(a = 1);waits(u);await v;await v after (true, false);not (a < 1) = (b < 2);(a = b) = (c = d)"

func TestTaken(t *testing.T) {
	for e := range strings.SplitSeq(someInts, ";") {
		taken(t, of("y", e))
		taken(t, of("z", "1 = ("+e+")"))
		refused(t, strings.Replace(of("z", e), "let z =", "let |z =", 1), api.ErrType)
	}
	for e := range strings.SplitSeq(someBools, ";") {
		taken(t, of("z", e))
		taken(t, of("z", "true = ("+e+")"))
		refused(t, strings.Replace(of("y", e), "let y =", "let |y =", 1), api.ErrType)
	}
	if f := types.Check(nil); f != (lex.Fault{}) {
		t.Errorf("Check(nil) = %+v", f)
	}
}

func TestTypesOfEqs(t *testing.T) {
	const rest = " w = async ints(a); x = async bools(c); k = 1;"
	for _, l := range []string{
		"y = 1; z = c;" + rest, "(y, z) = both(a, c);" + rest, "y = await w; z = waits(w);" + rest, rest + "y = waitsbool(1, x); z = await x after (true);",
		"y = 1; z = c; k = a when c; w = async waitsbool(k, v); x = async waits(u);",
	} {
		taken(t, eqs(l))
	}
	for _, l := range []string{
		"|y = true; z = c; k = 1;", "y = 1; |z = a; k = 1;", "|z = 1; y = c; k = 1;", "|y = bools(c); z = c; k = 1;", "y = 1; z = c; |k = c;",
		"(|z, y) = both(a, c); k = 1;", "(y, |k) = both(a, c); z = c;", "(|z, k) = both(a, c); y = 1;",
		"|y = async ints(a); z = c; k = 1;", "y = 1; |z = async bools(c); k = 1;", "|y = async bools(c); z = c; k = 1;", // a future goes to no int, and to no truth
	} {
		refused(t, eqs(l+" w = async ints(a); x = async bools(c);"), api.ErrType)
	}
}

func TestNamesOfFutures(t *testing.T) {
	for _, l := range []string{
		"|w = ints(a); x = async bools(c);", "|w = 1; x = async bools(c);", "w = async ints(a); |x = true;", "w = async ints(a); |x = async ints(a);",
		"|w = async bools(c); x = async bools(c);", "w = |u; x = async bools(c);", "w = |w; x = async bools(c);", "(|w, x) = both(a, c);",
	} {
		refused(t, eqs("y = 1; z = c; k = 1; "+l), api.ErrType)
	}
}

func TestAsyncThings(t *testing.T) {
	refused(t, eqs("y = 1; z = c; k = 1; (w, x) = async |both(a, c);"), api.ErrMany)
	refused(t, eqs("k = 1; (y, z) = async |both(a, c); w = 1; x = 1;"), api.ErrMany)
	refused(t, eqs("y = 1; z = c; k = 1; (w, x) = async both(a, |a);"), api.ErrType)     // what the expression is comes first
	refused(t, eqs("y = 1; z = c; k = |c + 1; (w, x) = async both(a, c);"), api.ErrType) // so does another equation
	taken(t, eqs("(y, z) = both(a, c); k = 1; w = async alone(); x = async waits(u);"))
	// a node without anything that goes out, though its names are refused ahead of that
	const text = "node f() returns () var u: future int; let u = async g(); tel node g() returns () let tel"
	l, _ := parse.Program(text)
	if f, want := types.Check(l), (lex.Fault{At: strings.Index(text, "g()"), Err: api.ErrMany}); f != want {
		t.Errorf("Check(%q) = %+v, want %+v", text, f, want)
	}
}

func TestFuturesAsValues(t *testing.T) {
	for _, e := range []string{
		"|u", "-|u", "|u + 1", "1 + |u", "a = |u", "|u = u", "if c then |u else a", "if c then a else |u", "if |v then a else b", "a -> |u", "|u -> a", "1 fby |u", "pre |u", "|u when c", "|v when c",
		"merge c (|u) (u)", "merge c (a) (|u)", "not |v", "|v and c", "c xor |v", "|v -> v", "pre pre |v", "ints(|u + 1)", "waits(pre |u)", "waitsbool(1, |v when c)", "waits(ints(|u))",
	} {
		refused(t, of("y", e), api.ErrType)
	}
}

func TestMustBe(t *testing.T) {
	for _, e := range []string{
		"-|c", "-|true", "-(c |and d)", "-(c |when d)", "not |a", "not |1", "not (a |+ b)", "-|bools(c)", "not |await u",
		"|a and c", "c and |a", "|1 or d", "d or |1", "|a xor c", "c xor |b", "a = |c", "c = |a", "a <> |true", "false <> |0",
		"|c < a", "a < |c", "|c <= a", "a <= |c", "|c > a", "a > |c", "|c >= a", "a >= |c",
		"|c + a", "a + |c", "|c - a", "a - |c", "|c * a", "a * |c", "|c / 1", "|c mod 1", "a / |c", "a mod |true", "|pre (c -> d) + 1",
		"if |a then b else b", "if |1 then c else d", "if |ints(a) then 1 else 2", "if c then a else |d", "if c then d else |a",
		"a -> |c", "c -> |a", "1 fby |c", "true fby |a", "merge c (a) (|d)", "merge c (d) (|a)",
		"ints(|c)", "ints(|true)", "bools(|a)", "bools(a |+ b)", "ints(|bools(c))", "bools(|ints(a))", "1 + ints(|bools(c))", "ints(|await v)", "waitsbool(|c, v)",
	} {
		refused(t, of("y", e), api.ErrType)
	}
}

func TestHanded(t *testing.T) {
	for _, e := range []string{
		"waits(|a)", "waits(|c)", "waits(|v)", "waits(|1)", "waits(|true)", "waits(a |+ 1)", "waits(|ints(a))", "waits(|alone())", "waits(|await u)", "waits(|pre a)", "waits(a |when c)",
		"waits(|if c then a else a)", "waits(|waits(u))", "waitsbool(1, |u)", "waitsbool(1, |c)", "waitsbool(1, |true)", "waitsbool(1, |await v)", "waitsbool(|u, v)", "waitsbool(|v, v)",
		"ints(|u)", "ints(|v)", "bools(|u)", "bools(|v)", "ints(ints(|u))",
	} {
		refused(t, of("z", e), api.ErrType)
	}
	refused(t, eqs("y = 1; z = c; k = 1; w = async waitsbool(a, |w); x = async bools(c);"), api.ErrType)
	refused(t, eqs("y = 1; z = c; k = 1; w = async ints(|u); x = async bools(c);"), api.ErrType)
	refused(t, eqs("y = 1; z = c; k = 1; w = async ints(a); x = async waits(|x);"), api.ErrType)
}

func TestAwait(t *testing.T) {
	for _, e := range []string{
		"|await a", "|await c", "|await a after (1)", "|await c after (true, 1)", "await u after (|true)", "await u after (1, |true, false)", "await v after (|0)", "await v after (true, |-1)",
		"await u after (1, 2, 3, 4, 5, 6, 7, |true)", "|await a after (1, 2, 3, 4, 5, 6, 7, 8, 9)",
	} {
		refused(t, of("y", e), api.ErrType)
	}
	refused(t, of("y", "|await u after (1, 2, 3, 4, 5, 6, 7, 8, 9)"), api.ErrBig)
	refused(t, of("z", "|await v after (true, true, true, true, true, true, true, true, true, true)"), api.ErrBig)
	refused(t, of("y", "|await u after (true, 2, 3, 4, 5, 6, 7, 8, 9)"), api.ErrBig)
}

func TestDivisors(t *testing.T) {
	for _, sign := range []string{"/", "mod"} {
		for _, by := range []string{"|0", "|-0", "|a", "|-a", "|-(1)", "|pre a", "|ints(1)", "1 |+ 1", "|if c then 1 else 1", "1 |when c", "1 |-> 1", "1 |fby 1", "|await u", "|merge c (1) (1)", "1 |/ 1"} {
			refused(t, of("y", "a "+sign+" ("+by+")"), api.ErrZero)
			refused(t, of("z", "(1 + a "+sign+" ("+by+")) = 1"), api.ErrZero)
		}
		for _, by := range []string{"|true", "|c", "|u", "a |= b", "|false"} {
			refused(t, of("y", "a "+sign+" ("+by+")"), api.ErrType)
		}
		taken(t, of("y", "(a / 1 "+sign+" 2) "+sign+" -3"))
		refused(t, of("y", "|c "+sign+" 0"), api.ErrType)       // behind both kids
		refused(t, of("y", "0 "+sign+" (0 / |0)"), api.ErrZero) // what is below comes first
		refused(t, of("y", "0 "+sign+" |- (1 / 1)"), api.ErrZero)
		refused(t, of("y", "0 / |0 "+sign+" 0"), api.ErrZero)
	}
}

func TestNamesOfClocks(t *testing.T) {
	for _, e := range []string{
		"a |when a", "c |when a", "a |when not b", "a |when u", "a |when v", "a |when not v", "a |when b when d", "a when u |when v",
		"|merge a (1) (2)", "|merge u (1) (2)", "|merge v (1) (2)", "(1 + |true) when c", "merge c (1 + |true) (true)",
	} {
		refused(t, of("y", e), api.ErrType)
	}
	// what is told of itself comes ahead of its kids
	for _, e := range []string{"(1 + true) |when a", "u |when v", "|merge a (1 + true) (2)", "|merge a (1) (true)", "|merge v (u) (u)", "(a when b) |when a", "(a / 0) |when b", "|merge a (a / 0) (1)"} {
		refused(t, of("y", e), api.ErrType)
	}
}

func TestKidByKid(t *testing.T) {
	for _, e := range []string{
		"-|c + true", "|c + -true", "|c + true", "(a + |c) + true", "a + |c / 0", "(1 -> |c) + d", "|true + 1 / 0", "(not |a) + d", "a + (not |b)", "a + |c + d", "(a = |c) + 1", "(a |= b) + c",
		"if a + |c then 1 else c", "if c then 1 + |d else b", "if |1 then 1 + true else 2", "if c then 1 + |true else -true", "if c then 1 else -|true", "if (1 + |true) then 1 else 2",
		"-|true -> 1 / 0", "1 -> -|true", "(1 + |true) -> true", "1 fby (1 + |true)", "true fby (1 + |true)", "merge c (-|c) (-d)", "merge c (1) (-|d)", "pre (not |a) + 1",
		"(not |a) < d", "a < (not |a)", "(not |a) and 1", "|a and (not b)", "|a and 1", "c and (not |a)", "(not |a) = 1", "1 = (not |a)", "(not |a) / 0", "1 / (not |a)",
		"both2(|c, a)", "both2(not |a, u)", "both2(a, |c)", "both2(a, -|c)", "both2(|c, -c)", "both2(|u, u)", "both2(pre |u, c)", "waitsbool(-|c, a)", "waitsbool(|c, a)", "waitsbool(1, -|c)", "waitsbool(1, 1 + |true)",
	} {
		refused(t, of("y", e)+"node both2(a: int, b: int) returns (y: int) let y = a + b; tel", api.ErrType)
	}
	refused(t, of("y", "1 / |0 + true"), api.ErrZero)
	refused(t, of("y", "if 1 / |0 = 1 then true else 2"), api.ErrZero)
	refused(t, of("y", "-(if c then a mod |a else true)"), api.ErrZero)
	refused(t, of("z", "waits(1 / |0)"), api.ErrZero)
	refused(t, of("y", "waitsbool(1 / |0, u)"), api.ErrZero)
	refused(t, of("y", "-|await u after (1, 1, 1, 1, 1, 1, 1, 1, 1) + true"), api.ErrBig)
}

func TestClocksOfVars(t *testing.T) {
	node := func(vars, eqs string) string {
		return "node f(a: int, c: bool) returns () var " + vars + " let " + eqs + " tel node i() returns (y: int) let y = 1; tel node b() returns (y: bool) let y = true; tel"
	}
	taken(t, node("v: int when c;", "v = a when c;"))
	taken(t, node("v: int when not w; w: bool when c;", "v = 1; w = true;"))
	taken(t, node("v: bool when v;", "v = true;"))
	taken(t, node("v: int; u: future int;", "v = 1; u = async i();"))
	refused(t, node("|v: int when a;", "v = 1;"), api.ErrType)
	refused(t, node("|v: int when not a;", "v = 1;"), api.ErrType)
	refused(t, node("|v: int when v;", "v = 1;"), api.ErrType)
	refused(t, node("|u: future int when c;", "u = async i();"), api.ErrType)
	refused(t, node("|u: future int when a;", "u = async i();"), api.ErrType)
	refused(t, node("u: future bool; |v: int when u;", "u = async b(); v = 1;"), api.ErrType) // a future of a truth is none
	refused(t, node("v: int when c; |w: int when v; x: future int when c;", "v = 1; w = -c; x = 1;"), api.ErrType)
	refused(t, node("v: int when c; |x: future int when c; w: int when v;", "v = -c; w = -c; x = 1;"), api.ErrType)
	refused(t, "node f() returns () let tel node g(c: future bool) returns () var |v: int when c; let v = 1; tel", api.ErrType)
	refused(t, "node f(c: bool) returns () let tel node g(c: int) returns () var |v: int when c; let v = 1; tel", api.ErrType) // each node's own
}

func TestFuturesInAndOut(t *testing.T) {
	taken(t, "node f() returns () let tel node g(u: future int, v: future bool) returns () let tel")
	taken(t, "node f() returns () var u: future int; let u = async g(); tel node g() returns (y: int) let y = 1; tel")
	for _, text := range []string{
		"node f(|u: future int) returns () let tel", "node f(|u: future bool) returns () let tel", "node f(a: int, |u: future int, v: future bool) returns () let tel",
		"node f() returns (|u: future int) let u = 1; tel", "node f() returns (y: int, |u: future bool, v: future int) let y = true; u = 1; v = 1; tel",
		"node f(|u: future int) returns (v: future int) let v = u; tel", "node f(a: int) returns (|u: future int) var v: int when a; let u = 1; v = 1; tel",
		"node f(|u: future int) returns () var v: int when a; a: int; let v = 1; a = -true; tel",
		"node f() returns () let tel node g(v: future int) returns (|u: future int) let u = v; tel",
		"node f() returns () let tel node g() returns (y: bool, |u: future bool) let y = 1; u = async h(); tel node h() returns (y: bool) let y = true; tel",
	} {
		refused(t, text, api.ErrType)
	}
}

// TestFuturesThatAreCalled: of a node that gives a future this is told, where its caller comes first and takes it as one.
func TestFuturesThatAreCalled(t *testing.T) {
	const gives = " tel node g() returns (y: future int) let y = 1; tel"
	for _, text := range []string{
		"node f() returns (y: int) let |y = g();" + gives, "node f() returns (y: int) let y = -|g();" + gives, "node f() returns (y: int) let y = h(|g());" + gives + " node h(u: future int) returns (y: int) let y = 1; tel",
		"node f() returns () var u: future int; let u = g();" + strings.Replace(gives, "(y", "(|y", 1), "node f() returns () var u: future int; let u = async g();" + strings.Replace(gives, "(y", "(|y", 1),
	} {
		refused(t, text, api.ErrType)
	}
}
