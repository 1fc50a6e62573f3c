package inits_test

import (
	"strings"
	"testing"

	"girandole/inits"
	"girandole/lex"
	"girandole/tree"
)

// others: nodes that are called: an int comes to them, a truth, nothing, a future; two go out.
const others = `
node ints(a: int) returns (y: int) let y = a; tel
node bools(c: bool) returns (y: bool) let y = c; tel
node both(a: int, c: bool) returns (y: int, z: bool) let y = a; z = c; tel
node alone() returns (y: int) let y = 1; tel
node waits(u: future int, a: int, b: int) returns (y: int) let y = await u after (0) + a - b; tel
`

// of: a program in which an expression is given to a name: y, or z, a truth, or k, on c.
func of(name, e string) string {
	l := "let " + name + " = " + e + ";"
	for q := range strings.SplitAfterSeq(" y = a; z = c; k = 1; u = async ints(a);", ";") {
		if !strings.HasPrefix(q, " "+name+" = ") {
			l += q
		}
	}
	return "node f(a: int, b: int, c: bool, d: bool) returns (y: int, z: bool) var k: int when c; u: future int; " + l + " tel" + others
}

// lateInts may not be there at the first instant; each is told where the mark stands, if it is given to y.
const lateInts = "|pre a;|pre 1;|pre (a + 1);|pre ints(a);|pre (1 -> pre a);|pre await u;|pre y;|-pre a;|- -pre a;pre a |+ b;a |+ pre b;a |* (b - pre a);(pre a + b) |mod 3;pre a |/ 2;" +
	"|if pre c then a else b;|if c then pre a else b;|if c then a else pre b;|if not pre c then 1 else 2;|if pre a = b then 1 else 2;|if c then (if d then 1 else pre a) else 2;" +
	"|if c and (d or pre d) then 1 else 2;pre a |+ (0 -> pre b);(0 -> pre b) |+ pre a;|pre merge c (k) (1);|pre (2 fby a)"

// lateBools, likewise, for z.
const lateBools = "|pre c;|not pre c;c |and pre d;pre c |or d;c |xor pre d;pre a |= b;a |<> pre b;pre c |= d;a |< pre b;pre a |<= b;pre a |> b;a |>= pre b;|if c then pre d else c"

// soundInts are there in time.
const soundInts = "a;1;-a;a + b;if c then a else b;0 -> pre a;1 -> -pre a;1 -> pre a + pre b;2 fby a;0 -> 1 fby a;0 -> 1 -> pre a;(0 -> pre a) + (1 -> pre b);ints(a);ints(0 -> pre a);alone();await u;await u after (1, 2);" +
	"waits(u, a, b);merge c (k) (1);merge c (1 -> pre k) (2 fby (a when not c));0 -> pre (1 -> pre a);0 -> pre (1 fby a);0 -> pre ints(a);0 -> pre await u;0 -> pre merge c (k) (1);3 fby (0 -> pre a);3 fby ints(a);" +
	"0 -> (if pre c then a else pre b);0 -> (if c then pre a else b);(1 -> pre a) -> pre b;0 -> pre y;-9223372036854775808 fby merge c (k) (1);0 -> pre (a + (0 -> pre b));ints(2 fby ints(1 -> pre a))"

const soundBools = "c;not c;true -> pre c;false -> not pre c;true -> c and pre d;bools(c);true fby c;true -> pre a = pre b;a = b;merge c (true -> pre (d when c)) (false fby (c when not c))"

func TestTaken(t *testing.T) {
	for e := range strings.SplitSeq(soundInts, ";") {
		taken(t, of("y", e))
		taken(t, of("y", "0 -> ("+e+")"))
	}
	for e := range strings.SplitSeq(soundBools, ";") {
		taken(t, of("z", e))
	}
	for e := range strings.SplitSeq("k;1;a when c;1 -> pre k;1 -> pre k + (a when c);(0 -> pre a) when c;1 fby (a when c);0 -> (pre a) when c;ints(a when c);ints(0 -> pre a) when c", ";") {
		taken(t, of("k", e))
	}
	taken(t, "node f() returns () let tel")
	if f := inits.Check(nil); f != (lex.Fault{}) {
		t.Errorf("Check(nil) = %+v", f)
	}
}

// TestLateEq: what is given to a name must not be late; behind an Arrow it may.
func TestLateEq(t *testing.T) {
	for e := range strings.SplitSeq(lateInts, ";") {
		refused(t, of("y", e))
		taken(t, of("y", "0 -> ("+strings.Replace(e, "|", "", 1)+")"))
	}
	for e := range strings.SplitSeq(lateBools, ";") {
		refused(t, of("z", e))
		taken(t, of("z", "true -> ("+strings.Replace(e, "|", "", 1)+")"))
	}
	for e := range strings.SplitSeq("|pre k;|pre (a when c);(pre a) |when c;k |+ pre k;(a + pre a) |when c;(1 + (pre a) when c) |* 2", ";") {
		refused(t, of("k", e))
	}
}

// around: what may stand around an int that must be there, where nothing ahead of that is told: "_" is in its stead.
const around = "(_) -> 1;(_) -> pre a;0 -> (_) -> 1;0 -> 1 -> (_) -> 1;1 fby (_);0 -> 1 fby (_);1 -> pre (_);-(1 -> pre (_));ints(_);0 -> ints(_);1 + ints(_);ints(ints(_));0 -> pre ints(_);1 + (0 -> (_) -> 1);" +
	"waits(u, _, a);waits(u, a, _);waits(u, _, pre a);0 -> waits(u, 1 -> pre a, _);if c then 1 else 2 fby (_);if bools(ints(_) = 1) then a else b;merge c (1) (2) + (0 -> pre (_));(0 -> pre (_)) mod 7;" +
	"pre (0 -> pre (_));0 -> pre (1 + ints(_));pre a + ((_) -> 1);if pre c then 1 else ints(_);(1 fby (_)) -> ints(pre a)"

func TestLateKids(t *testing.T) {
	for e := range strings.SplitSeq(lateInts, ";") {
		for all := range strings.SplitSeq(around, ";") {
			refused(t, of("y", strings.Replace(all, "_", e, 1)))
		}
	}
	for e := range strings.SplitSeq(lateBools, ";") {
		for _, all := range []string{"bools(_)", "true fby (_)", "true -> pre (_)", "(_) -> c", "not bools(_)", "c and (c -> (_) -> c)"} {
			refused(t, of("z", strings.Replace(all, "_", e, 1)))
		}
	}
}

// TestLateMerge: both its kids must be there, whenever their clocks begin.
func TestLateMerge(t *testing.T) {
	for _, e := range []string{
		"merge c (|pre k) (1)", "merge c (1) (|pre (a when not c))", "merge c (|pre k) (pre (a when not c))", "merge c (k) ((pre a) |when not c)", "merge c ((pre a) |when c) (1)", "merge c (k |+ pre k) (1)",
		"0 -> merge c (|pre k) (1)", "0 -> merge c (1 -> pre k) (|pre (a when not c))", "0 -> pre merge c (|pre k) (1)", "pre merge c (|pre k) (1)", "ints(merge c (|pre k) (1))", "merge c (1 -> pre |pre k) (pre (a when not c))",
	} {
		refused(t, of("y", e))
	}
	refused(t, of("z", "merge c (|pre (d when c)) (true)"))
}

// TestOrder: what is below comes first, and of kids the first one.
func TestOrder(t *testing.T) {
	for _, e := range []string{
		"pre |pre a", "pre pre |pre a", "-pre pre |pre a", "0 -> pre |pre a", "pre (a |+ pre a)", "pre (1 fby |pre a)", "1 fby (a + ints(|pre a) + pre a)", "ints(ints(|pre a) + pre a)",
		"pre |pre a -> pre pre b", "|pre a -> pre pre b", "|pre a -> 1 fby pre b", "(1 -> pre a) -> pre |pre b", "waits(u, pre |pre a, pre b)", "waits(u, |pre a, pre pre b)", "waits(u, a, pre |pre b) + pre a",
		"pre a + (0 -> pre |pre b)", "pre |pre a + (pre b -> 1)", "(|pre b -> 1) + pre pre a", "if pre |pre c then ints(pre a) else pre b", "if pre c then ints(|pre a) else pre pre b", "if pre c then pre a else pre |pre b",
		"ints(pre a |+ ints(b))", "ints(pre a + ints(|pre b))", "ints(|pre a) + pre b",
	} {
		refused(t, of("y", e))
	}
	refused(t, of("k", "(pre |pre a) when c"))
	refused(t, of("k", "(0 -> pre |pre a) when c"))
}

// TestEqs: node by node, and in it equation by equation.
func TestEqs(t *testing.T) {
	for _, text := range []string{
		"node f(a: int) returns (y: int, z: int) let z = |pre a; y = pre pre a; tel node g(a: int) returns (y: int) let y = pre pre a; tel",
		"node f(a: int) returns (y: int, z: int) let z = 0 -> pre a; y = pre |pre a; tel node g(a: int) returns (y: int) let y = pre pre a; tel",
		"node f(a: int) returns (y: int, z: int) let z = 0 -> pre a; y = g(a); tel node h(a: int) returns (y: int) let y = 0 -> a; tel node g(a: int) returns (y: int) let y = |pre a; tel",
		"node f(a: int, c: bool) returns (y: int, z: bool) let (y, z) = both(a, |pre c); tel" + others,
		"node f(a: int, c: bool) returns (y: int, z: bool) let (y, z) = both(|pre a, pre c); tel" + others,
		"node f(a: int) returns (y: int) var u: future int; let y = await u after (0); u = async ints(|pre a); tel" + others,
		"node f(a: int) returns (y: int) var u: future int; v: future int; let y = await v after (0); u = async ints(a); v = async waits(u, 1, |pre a); tel" + others,
	} {
		refused(t, text)
		sound := strings.ReplaceAll(strings.ReplaceAll(strings.Replace(text, "|", "", 1), "pre pre a", "pre a"), "pre a", "(0 -> pre a)")
		taken(t, strings.ReplaceAll(sound, "pre c", "(true -> pre c)"))
	}
}

func TestLate(t *testing.T) {
	for e := range strings.SplitSeq(lateInts, ";") {
		isLate(t, of("y", strings.Replace(e, "|", "", 1)), true)
		for _, all := range []string{"(_) -> 1", "(_) -> (_)", "0 -> (_)", "1 fby (_)", "ints(_)", "waits(u, _, _)"} { // though a fault is told of some
			isLate(t, of("y", strings.ReplaceAll(all, "_", strings.Replace(e, "|", "", 1))), false)
		}
	}
	for e := range strings.SplitSeq(lateBools, ";") {
		isLate(t, of("z", strings.Replace(e, "|", "", 1)), true)
	}
	for e := range strings.SplitSeq(soundInts, ";") {
		isLate(t, of("y", e), false)
		isLate(t, of("y", "pre ("+e+")"), true)
	}
	for e := range strings.SplitSeq(soundBools, ";") {
		isLate(t, of("z", e), false)
	}
	isLate(t, of("y", "merge c (pre k) (pre (a when not c))"), false)
	isLate(t, of("k", "(pre a) when c"), true)
	isLate(t, of("k", "a when c"), false)
}

// isLate: is the expression of the first equation?
func isLate(t *testing.T, text string, want bool) {
	t.Helper()
	l := programOf(t, text)
	if got := inits.Late(l, l[0].Eqs[0].E); got != want {
		t.Errorf("Late(%q) = %t, want %t", tree.Text(l[0].Eqs[0].E), got, want)
	}
}

// TestArgumentsStay: what is handed in stays as it is.
func TestArgumentsStay(t *testing.T) {
	for e := range strings.SplitSeq(soundInts+";"+strings.ReplaceAll(lateInts, "|", ""), ";") {
		l := programOf(t, of("y", e))
		before := tree.Print(l...)
		inits.Check(l)
		inits.Late(l, l[0].Eqs[0].E)
		if after := tree.Print(l...); after != before {
			t.Errorf("afterwards the nodes are %s, before %s", after, before)
		}
	}
}
