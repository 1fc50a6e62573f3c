package flat_test

import (
	"slices"
	"testing"
)

// library: nodes that are called.
const library = `
node sum(x: int) returns (y: int) let y = x -> pre y + x; tel
node id(x: int) returns (y: int) let y = x; tel
node both(x: int, c: bool) returns (y: int, z: bool) let z = not c; y = -x; tel
node crossed(x: int, w: int) returns (y: int, z: int) let y = w; z = x; tel
node picks(x: int, c: bool) returns (y: int) var k: int when c; l: int when not c; let y = merge c (k) (l); k = sum(x when c); l = -sum(1); tel
node truth(c: bool, d: bool) returns (e: bool) var k: bool when c; let e = merge c (k) (false); k = d when c; tel
node late(u: future int, x: int) returns (y: int) let y = await u after (7) + x; tel
node starts(x: int) returns (y: int) var u: future int; let y = await u after (0); u = async sum(x); tel
node two(x: int, u: future int, d: bool, v: future int, w: int) returns (y: int) let y = if d then 1000 * w + await u after (1, 2) else await v after (3) + x; tel
`

// says: of equations of y, with a: 1 to 6, b: 10 to 60, c and d as below, what y is.
var says = [...]struct {
	vars, eqs string
	want      []int64
}{
	{"", "y = 3;", []int64{3, 3, 3, 3, 3, 3}},
	{"", "y = a;", []int64{1, 2, 3, 4, 5, 6}},
	{"", "y = b - a * 2 + -a;", []int64{7, 14, 21, 28, 35, 42}},
	{"", "y = b / 4 mod 3;", []int64{2, 2, 1, 1, 0, 0}},
	{"", "y = if c and not d or a = 4 then a else -b;", []int64{1, -20, -30, 4, -50, -60}},
	{"k: bool; m: int;", "y = if k then m else 0; m = a + 1; k = a < 3 xor b >= 50;", []int64{2, 3, 0, 0, 6, 7}},
	{"", "y = 0 -> a;", []int64{0, 2, 3, 4, 5, 6}},
	{"", "y = 0 -> pre a;", []int64{0, 1, 2, 3, 4, 5}},
	{"", "y = 0 -> pre y + a;", []int64{0, 2, 5, 9, 14, 20}},
	{"", "y = 1 -> 2 -> 3;", []int64{1, 3, 3, 3, 3, 3}},
	{"", "y = 1 -> pre (2 -> pre (3 -> a));", []int64{1, 2, 3, 2, 3, 4}},
	{"", "y = 7 fby a;", []int64{7, 1, 2, 3, 4, 5}},
	{"", "y = -7 fby 8 fby 9 fby a;", []int64{-7, 8, 9, 1, 2, 3}},
	{"", "y = 5 -> pre (6 fby 7 fby a);", []int64{5, 6, 7, 1, 2, 3}},
	{"m: int;", "y = 1 fby m; m = 1 fby (y + m);", []int64{1, 1, 2, 3, 5, 8}},
	{"", "y = merge c (a when c) (b when not c);", []int64{1, 20, 3, 4, 50, 6}},
	{"", "y = merge c (0 -> pre (a when c)) (1 fby (b when not c));", []int64{0, 1, 1, 3, 20, 4}},
	{"k: int when c;", "y = merge c (k) (-1); k = (0 -> pre a) when c;", []int64{0, -1, 2, 3, -1, 5}},
	{"k: int when c;", "y = merge c (1 -> pre k) (0); k = a when c;", []int64{1, 0, 1, 3, 0, 4}},
	{"k: int when c;", "y = merge c (k) (0); k = 5 fby (6 fby (a when c));", []int64{5, 0, 6, 1, 0, 3}},
	{"k: int when c;", "y = merge c (k) (0); k = 5 fby ((6 fby a) when c);", []int64{5, 0, 6, 2, 0, 3}},
	{"e: bool when c; m: int when e; n: int when not e;", "y = merge c (merge e (m) (n)) (0); e = d when c; m = 1 -> 2; n = b when c when not e;", []int64{10, 0, 1, 40, 0, 2}},
	{"", "y = sum(a);", []int64{1, 3, 6, 10, 15, 21}},
	{"", "y = sum(a) * 100 + sum(id(2) + 1);", []int64{103, 306, 609, 1012, 1515, 2118}},
	{"", "y = sum(sum(a));", []int64{1, 4, 10, 20, 35, 56}},
	{"", "y = 0 -> pre sum(a);", []int64{0, 1, 3, 6, 10, 15}},
	{"k: bool;", "(y, k) = both(a, c);", []int64{-1, -2, -3, -4, -5, -6}},
	{"k: bool; m: int;", "(m, k) = both(a, c); y = if k then m else 0;", []int64{0, -2, 0, 0, -5, 0}},
	{"m: int;", "(y, m) = crossed(y, a);", []int64{1, 2, 3, 4, 5, 6}},
	{"k: int when c; m: int when c;", "(k, m) = crossed(sum(1), a when c); y = merge c (k * 10 + m) (0);", []int64{11, 0, 32, 43, 0, 64}},
	{"", "y = merge c (sum(a when c)) (sum(b when not c));", []int64{1, 20, 4, 8, 70, 14}},
	{"", "y = merge c (sum(a) when c) (0);", []int64{1, 0, 6, 10, 0, 21}},
	{"", "y = picks(a, c);", []int64{1, -1, 4, 8, -2, 14}},
	{"", "y = merge c (picks(a when c, d when c)) (0);", []int64{-1, 0, 3, -2, 0, 9}},
	{"e: bool;", "e = truth(c, d); y = merge e (a when e) (0);", []int64{0, 0, 3, 0, 0, 6}},
	{"", "y = picks(a, true);", []int64{1, 3, 6, 10, 15, 21}},
	{"u: future int;", "u = async sum(a); y = await u;", []int64{1, 3, 6, 10, 15, 21}},
	{"u: future int;", "y = await u after (5, -6); u = async sum(a);", []int64{5, -6, 1, 3, 6, 10}},
	{"u: future int;", "u = async id(a); y = 10 * await u + await u after (0);", []int64{10, 21, 32, 43, 54, 65}},
	{"u: future int;", "u = async id(y + 1); y = await u after (0);", []int64{0, 1, 2, 3, 4, 5}},
	{"u: future int;", "u = async sum(merge c (1) (0)); y = merge c (await u when c) (0);", []int64{1, 0, 2, 3, 0, 4}},
	{"u: future int;", "u = async id(a); y = late(u, 10);", []int64{17, 11, 12, 13, 14, 15}},
	{"u: future int; v: future int;", "v = async late(u, b); u = async id(a); y = await v after (0);", []int64{0, 17, 21, 32, 43, 54}},
	{"u: future int; v: future int;", "v = async late(u, starts(a)); u = async starts(b); y = await v;", []int64{7, 1, 13, 36, 70, 115}},
	{"", "y = starts(a) + starts(b);", []int64{0, 11, 33, 66, 110, 165}},
	{"u: future int; v: future int;", "u = async id(a); v = async id(b); y = two(a, u, c, v, b);", []int64{10001, 12, 30001, 40002, 45, 60004}},
	{"u: future int; v: future int; w: future int;", "w = async two(1, v, d, u, 2); u = async id(a); v = async id(b); y = await w;", []int64{4, 2002, 2010, 4, 2030, 2040}},
}

func rows() [][]int64 {
	var l [][]int64
	for i, c := range []int64{1, 0, 1, 1, 0, 1} {
		d := []int64{0, 1, 1, 0, 1, 1}[i]
		l = append(l, []int64{int64(i + 1), int64(10 * (i + 1)), c, d})
	}
	return l
}

func withVars(vars, eqs string) string {
	if vars != "" {
		vars = "var " + vars
	}
	return "node f(a: int, b: int, c: bool, d: bool) returns (y: int) " + vars + " let " + eqs + " tel" + library
}

func TestSays(t *testing.T) {
	for _, x := range says {
		l := programOf(t, withVars(x.vars, x.eqs))
		said, ok := run(t, l, "f", rows())
		var got []int64
		for _, outs := range said {
			got = append(got, outs...)
		}
		if !ok || !slices.Equal(got, x.want) {
			t.Errorf("%q says %v, %t, want %v", x.eqs, got, ok, x.want)
		}
	}
}

// hanging, free: equations in which some name hangs on itself at one instant, and in which none does.
var hanging = [...]struct{ vars, eqs string }{
	{"", "y = y;"},
	{"", "y = -y;"},
	{"", "y = 0 * y;"},
	{"", "y = a -> y;"},
	{"", "y = y -> a;"},
	{"", "y = if c then a else y;"},
	{"", "y = 0 -> pre (if y = 1 then a else b) + y;"},
	{"m: int;", "y = m; m = y;"},
	{"m: int;", "y = 1; m = 0 -> m;"},
	{"", "y = id(y);"},
	{"", "y = 1 - id(id(y) + a);"},
	{"", "y = sum(y);"},
	{"m: int;", "(y, m) = crossed(1, y);"},
	{"m: int;", "(m, y) = crossed(a, m);"},
	{"m: int;", "(y, m) = crossed(y, m);"},
	{"e: bool;", "y = 1; e = merge e (true) (false);"},
	{"e: bool; k: int when e;", "y = 1; k = 1; e = merge e (k > 0) (true);"},
	{"e: bool; k: int when e;", "y = merge e (k) (0); k = 1; e = y > 0;"},
	{"e: bool; k: int when e;", "y = merge e (k) (0); k = y when e; e = c;"},
	{"e: bool;", "y = merge e (id(1)) (sum(1)); e = true -> y > 0;"},
}
var free = [...]struct{ vars, eqs string }{
	{"", "y = 0 -> pre y;"},
	{"", "y = 0 fby y;"},
	{"", "y = 0 -> pre (a + id(y));"},
	{"", "y = 0 fby sum(y);"},
	{"", "y = sum(0 -> pre y);"},
	{"m: int;", "y = m; m = 0 -> pre y;"},
	{"m: int;", "(y, m) = crossed(y, a);"},
	{"m: int;", "(m, y) = crossed(m, 2);"},
	{"m: int;", "y = m + (0 -> pre y); m = 0 -> pre m;"},
	{"e: bool; k: int when e;", "y = 1; k = a when e; e = true -> pre merge e (k > 2) (true);"},
	{"e: bool; k: int when e;", "y = merge e (k) (0); k = (0 -> pre y) when e; e = c;"},
	{"e: bool;", "y = 1; e = true fby merge e (id(1) > 2) (1 < 2);"},
	{"u: future int;", "u = async id(y); y = await u after (1);"},
}

// TestHangs: just what equations and clocks hang on, no more and no less.
func TestHangs(t *testing.T) {
	for _, x := range hanging {
		if said, ok := run(t, programOf(t, withVars(x.vars, x.eqs)), "f", rows()); ok {
			t.Errorf("%q says %v; want that it hangs on itself", x.eqs, said)
		}
	}
	for _, x := range free {
		if _, ok := run(t, programOf(t, withVars(x.vars, x.eqs)), "f", rows()); !ok {
			t.Errorf("%q hangs on itself", x.eqs)
		}
	}
}
