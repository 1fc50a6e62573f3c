package clocks_test

import (
	"strings"
	"testing"

	"girandole/api"
	"girandole/clocks"
	"girandole/lex"
	"girandole/tree"
)

// others: nodes that are called: an int comes to them, a truth, nothing, a future; two go out.
const others = `
node ints(a: int) returns (y: int) let y = a; tel
node bools(c: bool) returns (y: bool) let y = c; tel
node both(a: int, c: bool) returns (y: int, z: bool) let y = a; z = c; tel
node alone() returns (y: int) let y = 1; tel
node waits(u: future int, a: int) returns (y: int) let y = await u after (0) + a; tel
`

// names of the node that is looked at, on each clock ints, and truths.
const declared = "(a: int, b: int, c: bool, d: bool) returns (o: int) var y: int; z: bool; u: future int; " +
	"ac: int when c; dc: bool when c; zc: bool when c; an: int when not c; dn: bool when not c; ad: int when d; " +
	"acd: int when dc; ecd: bool when dc; acn: int when not dc; anc: int when dn; aze: int when ecd;"

// all: equations of all names of that node.
const all = "o = a; y = a; z = c; u = async ints(a); ac = 1; dc = true; zc = true; an = 1; dn = true; ad = 1; acd = 1; ecd = true; acn = 1; anc = 1; aze = 1;"

// of: a program in which an expression is given to a name.
func of(name, e string) string {
	l := "let " + name + " = " + e + ";"
	for q := range strings.SplitAfterSeq(all, ";") {
		if !strings.HasPrefix(strings.TrimSpace(q), name+" = ") {
			l += q
		}
	}
	return "node f" + declared + " " + l + " tel" + others
}

// given is a name, and expressions.
type given struct{ name, l string }

// sound: expressions that are on the name's clock.
var sound = [...]given{
	{"y", "a;y;o;1;-a;a + 1;if c then a else o;0 -> pre a;1 fby y;ints(a);ints(1);alone();await u;await u after (1);1 + await u;ints(await u);waits(u, a)"},
	{"y", "merge c (1) (2);merge c (ac) (an);merge c (a when c) (b when not c);merge c (merge dc (acd) (acn)) (0 fby an);merge c (ints(ac)) (pre an);merge c (alone()) (waits(u, an))"},
	{"y", "merge d (ad) (a when not d);merge c (merge dc (1 when dc) (1 when not dc)) (-an);merge c (await u when c) (1)"},
	{"z", "c;d;true;not c;c and not d;a = b;merge c (dc) (dn);bools(z);1 < alone()"},
	{"ac", "1;ac;a when c;(a + b) when c;ac + (a when c);1 when c;ints(ac);ints(a) when c;(await u) when c;merge dc (acd) (acn);waits(u, ac);0 -> pre ac;if dc then ac else 1;waits(u, a) when c"},
	{"ac", "merge dc (1) (ac when not dc);1 fby ac;-ac"},
	{"an", "1;an;a when not c;alone();(if c then 1 else a) when not c"},
	{"zc", "dc;c when c;not dc;bools(dc);merge dc (ecd) (dc when not dc);ac < 1"},
	{"acd", "1;acd;ac when dc;a when c when dc;(ac when dc) + acd;merge ecd (aze) (1);(1 -> ac) when dc"},
	{"acn", "acn;ac when not dc;a when c when not dc"},
	{"anc", "anc;an when dn;a when not c when dn"},
	{"aze", "aze;acd when ecd;ac when dc when ecd;a when c when dc when ecd;waits(u, 1)"},
}

// unsound: expressions that aren't, each with the place of the fault.
var unsound = [...]given{
	{"y", "|ac;|an;|acd;-|ac;|ac + a;a + |ac;if |dc then a else b;if c then |ac else a;if c then a else |ac;|ac -> a;a -> |ac;1 fby |ac;pre |ac;pre pre |an;ints(|ac);ints(ints(|ac));waits(u, |ac)"},
	{"y", "a |when c;a |when not c;ac |when dc;1 |when c;1 + (a |when c);ints(a |when c);|merge dc (acd) (acn)"},
	{"y", "merge c (|a) (an);merge c (ac) (|a);merge c (|an) (ac);merge c (ac) (|ac);merge c (a |when not c) (an);merge c (ac) (a |when c);merge c (ac) (a |when d);merge c (ac) (a |when not d)"},
	{"y", "merge c (|merge d (1) (2)) (an);merge c (merge dc (|acn) (acd)) (an);merge c (|await u) (an);merge c (ac) (1 + |await u after (1));merge c (ints(|a)) (1);merge c (ac) (waits(u, |a))"},
	{"z", "|dc;not |dc;|dc and c;c xor |dn;|ac = a;a < |ac;bools(|dc);merge c (|dn) (dn)"},
	{"ac", "|a;|an;|ad;|acd;1 + |a;a |when not c;a |when d;|ac when c;(|ac + a) when c;(a + |ac) when c;a |when c when c;ac |when dc;ints(|a);ints(|ac) when c;waits(u, |a);waits(u, |ac) when c"},
	{"ac", "|await u;1 + |await u;ints(|await u);|merge c (ac) (an);merge dc (|ac) (acn);merge dc (acd) (|ac);|a -> pre ac;0 -> pre (a |when d)"},
	{"an", "|a;|ac;a |when c;|await u;ints(|ac)"},
	{"acd", "|ac;|acn;|a when dc;ac |when not dc;(a |when not c) when dc;(a |when d) when dc;a |when c;a when c when dc |when ecd;|a when dc + acd;|merge dc (1) (2);|await u"},
	{"acn", "|acd;ac |when dc;|an when not dc"},
	{"anc", "|acd;ac |when dc;|ac when dn;an |when c"},
	{"aze", "|acd;acd |when ecd when ecd;|ac when ecd;(ac |when not dc) when ecd"},
}

func TestTaken(t *testing.T) {
	for _, x := range sound {
		for e := range strings.SplitSeq(x.l, ";") {
			taken(t, of(x.name, e))
		}
	}
	taken(t, "node f() returns () let tel")
	if f := clocks.Check(nil); f != (lex.Fault{}) {
		t.Errorf("Check(nil) = %+v", f)
	}
}

func TestRefused(t *testing.T) {
	for _, x := range unsound {
		for e := range strings.SplitSeq(x.l, ";") {
			refused(t, of(x.name, e), api.ErrClock)
		}
	}
}

// TestGivenTo: all names to which an equation gives must be on the clock of the first one, and what it gives too.
func TestGivenTo(t *testing.T) {
	const head = "node f(a: int, c: bool) returns (y: int, z: bool) var k: int when c; l: bool when c; m: int when not c; p: bool when c; let "
	for _, l := range []string{
		"(y, z) = both(a, c); (k, l) = both(1, true); m = 1; p = true;",
		"(k, l) = both(a when c, p); (y, z) = both(a, c); m = 1; p = c when c;",
		"(y, z) = both(a, c); (m, |l) = both(1, true); k = 1; p = true;",
		"(y, |l) = both(a, c); (m, z) = both(1, true); k = 1; p = true;",
		"(k, |z) = both(a, c); (y, l) = both(1, true); m = 1; p = true;", // ahead of what is handed over
		"(k, l) = both(|a, p); (y, z) = both(a, c); m = 1; p = true;",
		"(k, l) = both(1, |c); (y, z) = both(a, c); m = 1; p = true;",
		"(y, z) = both(|k, c); (k, l) = both(1, true); m = 1; p = true;",
		"y = 1; z = c; k = 1; (m, |p) = both(a, true); l = true;",
	} {
		if strings.Contains(l, "|") {
			refused(t, head+l+" tel"+others, api.ErrClock)
		} else {
			taken(t, head+l+" tel"+others)
		}
	}
}

// TestFutures: a future is there always, wherever it is handed over; what else comes to the call must be there with it.
func TestFutures(t *testing.T) {
	const head = "node f(a: int, c: bool) returns (y: int) var u: future int; w: future int; k: int when c; let y = 1; "
	taken(t, head+"u = async ints(a); w = async waits(u, y); k = waits(w, a when c) + waits(u, k); tel"+others)
	refused(t, head+"u = async ints(|k); w = async waits(u, y); k = 1; tel"+others, api.ErrClock)
	refused(t, head+"u = async ints(a); w = async waits(u, |k); k = 1; tel"+others, api.ErrClock)
	refused(t, head+"u = async ints(a); w = async waits(u, a |when c); k = 1; tel"+others, api.ErrClock)
	refused(t, head+"u = async ints(a); w = async ints(1); k = |await w; tel"+others, api.ErrClock)
}

// TestItself: in each node ahead of all its equations.
func TestItself(t *testing.T) {
	for _, text := range []string{
		"node f() returns () var |a: bool when a; let a = true; tel",
		"node f() returns () var |a: bool when not a; let a = true; tel",
		"node f() returns () var |a: bool when b; b: bool when a; let a = true; b = true; tel",
		"node f() returns () var |a: bool when b; b: bool when d; d: bool when not a; let a = true; b = true; d = true; tel",
		"node f(c: bool) returns () var a: bool when c; |b: bool when d; e: bool when a; d: bool when b; let a = true; b = true; d = true; e = true; tel",
		"node f(c: bool) returns () var a: bool when c; |g: int when b; b: bool when d; d: bool when b; let a = c; b = true; d = true; g = 1; tel", // it hangs on one that does
		"node f(c: bool) returns (y: bool) var a: bool when c; |b: bool when b; let y = a; a = c; b = c; tel node g(c: bool) returns (y: bool) var b: bool when b; let y = b; b = c; tel",
		"node f(c: bool) returns (y: bool) let y = c; tel node g(c: bool) returns (y: bool) var |b: bool when b; let y = b; b = c; tel",
	} {
		refused(t, text, api.ErrCycle)
	}
	refused(t, "node f(c: bool) returns (y: bool) let y = c |when c; tel node g(c: bool) returns (y: bool) var b: bool when b; let y = b; b = c; tel", api.ErrClock)
}

// TestArgumentsStay: what is handed in stays as it is.
func TestArgumentsStay(t *testing.T) {
	for _, x := range sound {
		for e := range strings.SplitSeq(x.l, ";") {
			l := programOf(t, of(x.name, e))
			before := tree.Print(l...)
			clocks.Check(l)
			if after := tree.Print(l...); after != before {
				t.Errorf("afterwards the nodes are %s, before %s", after, before)
			}
		}
	}
}
