package order_test

import (
	"reflect"
	"slices"
	"strconv"
	"strings"
	"testing"

	"girandole/api"
	"girandole/lex"
)

// library: nodes that are called.
const library = `
node id(x: int) returns (y: int) let y = x; tel
node not2(c: bool) returns (d: bool) let d = not not c; tel
node sum(x: int) returns (y: int) let y = x -> pre y + x; tel
node kept(x: int) returns (y: int) let y = 0 fby x; tel
node crossed(x: int, w: int) returns (y: int, z: int) let y = w; z = x; tel
node halfKept(x: int, w: int) returns (y: int, z: int) let z = w; y = 1 fby x; tel
node deaf(x: int) returns (y: int) var k: int; let k = x; y = 3; tel
node waits(u: future int, x: int) returns (y: int) let y = await u after (7) + x; tel
node picks(x: int, c: bool) returns (y: int) var k: int when c; let y = merge c (k) (0); k = sum(x when c); tel
node whens(c: bool, d: bool) returns (e: bool) var k: bool when c; let e = merge c (k) (false); k = d when c; tel
`

// withVars: a node f, marked, with these names and equations; other nodes stand ahead of it.
func withVars(vars, eqs string) string {
	if vars != "" {
		vars = "var " + vars
	}
	return library + "node |f(a: int, b: int, c: bool, d: bool) returns (y: int) " + vars + " let " + eqs + " tel"
}

// hanging: some name hangs on itself.
var hanging = [...]struct{ vars, eqs string }{
	{"", "y = y;"},
	{"", "y = y + 1;"},
	{"", "y = a + y;"},
	{"", "y = a - (b - -y);"},
	{"", "y = 0 * y;"},
	{"", "y = y / 2 mod 3;"},
	{"", "y = a -> y;"},
	{"", "y = y -> a;"},
	{"", "y = if c then 1 else y;"},
	{"", "y = if c then y else 1;"},
	{"", "y = if y = 0 then 1 else 2;"},
	{"", "y = (0 -> pre y) + y;"},
	{"k: bool;", "y = 1; k = not k;"},
	{"k: bool;", "y = 1; k = c and (d or k);"},
	{"m: int;", "y = m; m = y;"},
	{"m: int;", "m = y + 1; y = m * 2;"},
	{"m: int;", "y = a; m = 0 -> m;"},
	{"m: int; n: int; o: int;", "n = o; y = a; m = n; o = m;"},
	{"m: int; n: int; o: int;", "y = m; o = y; n = o - 1; m = n; "},
	{"", "y = id(y);"},
	{"", "y = 1 - id(id(y) + a);"},
	{"", "y = sum(y);"},
	{"", "y = sum(y -> a);"},
	{"m: int;", "y = id(m); m = id(y);"},
	{"m: int;", "(y, m) = crossed(1, y);"},
	{"m: int;", "(m, y) = crossed(a, m);"},
	{"m: int;", "(y, m) = crossed(m, 3);"},
	{"m: int;", "(y, m) = crossed(y, m);"},
	{"m: int;", "(y, m) = halfKept(y, m);"},
	{"m: int;", "(m, y) = halfKept(1, m + y);"},
	{"e: bool;", "y = 1; e = merge e (true) (false);"},
	{"e: bool;", "y = 1; e = merge c (e when c) (false);"},
	{"e: bool;", "y = 1; e = merge c (true) (e when not c);"},
	{"e: bool; k: int when e;", "y = 1; k = 1; e = merge e (k > 0) (true);"},
	{"e: bool; k: int when e;", "y = merge e (k) (0); k = 1; e = y > 0;"},
	{"e: bool; k: int when e;", "y = merge e (k) (0); k = y when e; e = c;"},
	{"e: bool; k: bool when e;", "y = 1; k = true; e = merge e (true fby k) (true);"},
	{"e: bool; k: bool when e; m: int when k;", "y = merge e (merge k (m) (1)) (0); m = 1; k = true; e = true -> y > 0;"},
	{"k: int when c; m: int when c;", "y = merge c (k) (0); k = m + 1; m = k;"},
	{"k: int when c;", "y = merge c (k) (0); k = id(k);"},
	{"e: bool;", "y = 1; e = whens(e, true);"},
	{"e: bool;", "y = 1; e = whens(c, e);"},
	{"e: bool;", "y = merge e (id(1)) (sum(1)); e = true -> y > 0;"},
	{"e: bool;", "y = 1; e = merge c (not2(e when c)) (true);"},
	{"e: bool;", "y = merge e (waitless(1)) (0); e = y = 0; tel node waitless(x: int) returns (y: int) let y = 1 -> x;"},
	{"u: future int;", "u = async id(1); y = waits(u, y);"},
	{"u: future int;", "u = async id(m(a)); y = await u after (0); tel node m(a: int) returns (b: int) let b = b + a;"},
}

// free: no name hangs on itself.
var free = [...]struct{ vars, eqs string }{
	{"", "y = 3;"},
	{"", "y = a;"},
	{"", "y = 0 -> pre y;"},
	{"", "y = 0 -> pre y + a;"},
	{"", "y = 0 -> pre (a + id(y));"},
	{"", "y = 0 fby y;"},
	{"", "y = 0 fby (1 -> y + 1);"},
	{"", "y = 0 fby sum(y);"},
	{"", "y = sum(0 -> pre y);"},
	{"", "y = kept(y);"},
	{"", "y = kept(kept(y) + 1);"},
	{"", "y = deaf(y);"},
	{"m: int;", "y = m; m = 0 -> pre y;"},
	{"m: int;", "y = m; m = 1 fby y;"},
	{"m: int; n: int; o: int;", "y = o; o = n + b; n = m - a; m = a;"},
	{"m: int; n: int;", "y = m; m = n; n = 0 -> pre m;"},
	{"m: int;", "(y, m) = crossed(y, a);"},
	{"m: int;", "(m, y) = crossed(m, 2);"},
	{"m: int;", "(y, m) = halfKept(y, y);"},
	{"m: int;", "(y, m) = halfKept(m, y + 1);"},
	{"m: int;", "y = m + (0 -> pre y); m = 0 -> pre m;"},
	{"e: bool; k: int when e;", "y = 1; k = a when e; e = true -> pre merge e (k > 2) (true);"},
	{"e: bool; k: int when e;", "y = merge e (k) (0); k = (0 -> pre y) when e; e = c;"},
	{"e: bool; k: int when e;", "y = merge e (k) (0); k = a when e; e = true fby y = 1;"},
	{"e: bool;", "y = 1; e = true fby merge e (id(1) > 2) (1 < 2);"},
	{"e: bool; k: bool when e; m: int when k;", "m = 1; y = 0 fby merge e (merge k (m) (1)) (0); k = true; e = true -> y > 0;"},
	{"e: bool; k: int when e;", "y = picks(a, e); k = sum(1) + y when e; e = whens(c, d);"},
	{"k: int when c; m: int when c;", "y = merge c (k + m) (b when not c); k = m; m = if d when c then sum(1) else 0 fby k;"},
	{"u: future int;", "u = async id(y); y = await u after (1);"},
	{"u: future int;", "u = async id(y); y = await u;"},
	{"u: future int;", "u = async id(y); y = waits(u, 1);"},
	{"u: future int; v: future int;", "u = async waits(v, y); v = async waits(u, y); y = await v;"},
	{"u: future int;", "u = async ring(a); y = await u after (0); tel node ring(a: int) returns (b: int) let b = b + a;"},
}

func TestHanging(t *testing.T) {
	for _, x := range hanging {
		text, at := unmarked(t, withVars(x.vars, x.eqs))
		if _, f := sorted(t, unitOf(t, programOf(t, text), "f")); f != (lex.Fault{At: at, Err: api.ErrCycle}) {
			t.Errorf("Sort of %q: %+v, want ErrCycle at %d", x.eqs, f, at)
		}
	}
}

func TestFree(t *testing.T) {
	for _, x := range free {
		text, _ := unmarked(t, withVars(x.vars, x.eqs))
		if _, f := sorted(t, unitOf(t, programOf(t, text), "f")); f != (lex.Fault{}) {
			t.Errorf("Sort of %q: %+v, want none", x.eqs, f)
		}
	}
}

// TestWhere: the fault is told at the node whose unit it is, wherever in that a name hangs on itself.
func TestWhere(t *testing.T) {
	const text = "node outer(a: int) returns (y: int) let y = inner(a) + 1; tel " +
		"node inner(a: int) returns (y: int) var k: int; let y = a; k = -k; tel " +
		"node beside(a: int) returns (y: int) var u: future int; let y = await u after (0); u = async inner(a); tel " +
		"node clock(c: bool) returns (d: bool) let d = merge c (true) (whole(c when not c)); tel " +
		"node whole(c: bool) returns (d: bool) var e: bool; let (d, e) = two(e, c); tel " +
		"node two(c: bool, d: bool) returns (e: bool, f: bool) let (e, f) = three(c, d); tel " +
		"node three(c: bool, d: bool) returns (e: bool, f: bool) let f = c; e = d; tel"
	l := programOf(t, text)
	for name, hangs := range map[string]bool{"outer": true, "inner": true, "beside": false, "clock": true, "whole": true, "two": false, "three": false} {
		want := lex.Fault{}
		if hangs {
			want = lex.Fault{At: strings.Index(text, "node "+name) + len("node "), Err: api.ErrCycle}
		}
		if _, f := sorted(t, unitOf(t, l, name)); f != want {
			t.Errorf("Sort of %q: %+v, want %+v", name, f, want)
		}
	}
}

// chain: a node in which each name is what comes of the next one, through some nodes; the last one is given.
func chain(last string) string {
	text := "node f(x: int) returns (n0: int) var "
	eqs := ""
	for i := range 40 {
		text += "n" + strconv.Itoa(i+1) + ": int; "
		eqs += "n" + strconv.Itoa(i) + " = g(n" + strconv.Itoa(i+1) + "); "
	}
	return text + "let " + eqs + "n40 = " + last + "; tel " +
		"node g(x: int) returns (y: int) var k: int; let y = k; k = h(x - 1); tel " +
		"node h(x: int) returns (y: int) var k: int; let y = k; k = i(x); tel " +
		"node i(x: int) returns (y: int) var k: int; l: int; let y = k; k = l; l = x; tel"
}

func TestLong(t *testing.T) {
	if l, f := sorted(t, unitOf(t, programOf(t, chain("x")), "f")); f != (lex.Fault{}) || len(l) < 40*8 {
		t.Errorf("Sort of a long chain: %+v, %d equations", f, len(l))
	}
	if _, f := sorted(t, unitOf(t, programOf(t, chain("n0")), "f")); f != (lex.Fault{At: len("node "), Err: api.ErrCycle}) {
		t.Errorf("Sort of a long ring: %+v", f)
	}
}

// TestStays: a unit stays as it is, and what is answered of it is the same each time, in memory of its own.
func TestStays(t *testing.T) {
	for _, x := range free {
		text, _ := unmarked(t, withVars(x.vars, x.eqs))
		l := programOf(t, text)
		u := unitOf(t, l, "f")
		first, _ := sorted(t, u)
		kept := slices.Clone(first)
		second, _ := sorted(t, u)
		if !slices.Equal(first, second) {
			t.Errorf("of %q Sort answers %v, and then %v", x.eqs, first, second)
		}
		for i := range second {
			second[i] = -1
		}
		if !slices.Equal(first, kept) || !reflect.DeepEqual(u, unitOf(t, l, "f")) {
			t.Errorf("of %q Sort's order, or the unit, doesn't stay", x.eqs)
		}
	}
}
