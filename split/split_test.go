package split_test

import (
	"slices"
	"strings"
	"testing"
)

// others: nodes that are called, at once or by themselves.
const others = " node g(a: int) returns (b: int) let b = a + 1; tel" +
	" node g2(a: int, b: int) returns (c: int) let c = a - b; tel" +
	" node k() returns (b: int) let b = 1 fby b + 1; tel" +
	" node t(a: bool, b: int) returns (c: bool) let c = a and b > 0; tel" +
	" node h(w: future int) returns (b: int) let b = await w after (5); tel" +
	" node deaf(w: future int, a: int) returns (b: int) let b = a; tel" +
	" node pass(w: future int, a: int) returns (b: int) var v: future int; let v = async h(w); b = a + await v after (-6); tel" +
	" node on(a: int) returns (b: int) var v: future int; let v = async g(a); b = await v after (3); tel" +
	" node two(v: future int, w: future int) returns (b: int, c: int) let b = await v after (1); c = await w after (2); tel" +
	" node four(a: int) returns (b: int) let b = on(on(a)) - on(a) * on(1); tel" +
	" node deep(w: future int, a: int) returns (b: int) let b = inner(a, w) + await w after (4); tel" +
	" node inner(a: int, v: future int) returns (b: int) let b = pass(v, a) - deaf(v, a); tel" +
	" node ring(a: int, w: future int) returns (b: int) let b = a - await w after (0); tel" +
	" node flags(w: future bool) returns (b: bool) let b = await w after (true, false); tel"

// withVars: a program whose first node declares these names, too, and has these equations.
func withVars(vars, eqs string) string {
	return "node f(x: int, c: bool) returns (y: int) " + strings.Repeat("var ", min(len(vars), 1)) + vars + " let " + eqs + " tel" + others
}

// plans: programs, the nodes of their workers but for the first one's, and their edges, sorted; "arg" stands for
// "calls", ">" for "comes to".
var plans = [...]struct {
	vars, eqs string
	crew      string
	edges     string
	depths    []int
}{
	{"", "y = x;", "", "", nil},
	{"", "y = g(x) + k() + g2(x, x);", "", "", nil},
	{"u: future int;", "u = async k(); y = x;", "k", "", nil},
	{"u: future int;", "u = async k(); y = await u;", "k", "k > f", []int{0}},
	{"u: future int;", "u = async g(x); y = x;", "g", "f arg g", []int{0}},
	{"u: future int;", "u = async g(x); y = await u after (0);", "g", "f arg g,g > f 0", []int{0, 1}},
	{"u: future int;", "u = async g(7); y = await u;", "g", "f arg g,g > f", []int{0, 0}},
	{"u: future int;", "u = async g2(x, 2 fby x); y = await u after (1, -2, 3, -4, 5, -6, 7, -8);", "g2", "f arg g2,f arg g2,g2 > f 1 -2 3 -4 5 -6 7 -8", []int{0, 0, 8}},
	{"u: future int;", "y = await u + await u - await u after (0); u = async k();", "k", "k > f,k > f,k > f 0", []int{0, 0, 1}},
	{"u: future int;", "y = await u after (1, 2, 3) - await u after (9, 9) + await u after (4); u = async k();", "k", "k > f 1 2 3,k > f 4,k > f 9 9", []int{1, 2, 3}},
	{"u: future int;", "u = async g(await u after (8)); y = 1;", "g", "f arg g,g > f 8", []int{0, 1}},
	{"u: future int;", "y = 1; u = async g(0 -> pre (x + await u));", "g", "f arg g,g > f", []int{0, 0}},
	{"u: future int; v: future int;", "u = async g(x); v = async g(await u); y = await v;", "g,g", "f arg g,f arg g,g > f,g > f", []int{0, 0, 0, 0}},
	{"u: future bool;", "u = async t(c, x); y = if await u after (true, false) then 1 else 2;", "t", "f arg t,f arg t,t > f 1 0", []int{0, 0, 2}},
	{"u: future bool; v: future bool;", "v = async flags(u); u = async t(c, x); y = 1;", "flags,t", "f arg t,f arg t,t > flags 1 0", []int{0, 0, 2}},
	// a future that is handed over
	{"u: future int;", "u = async k(); y = h(u);", "k", "k > f 5", []int{1}},
	{"u: future int;", "u = async k(); y = deaf(u, 1);", "k", "", nil},
	{"u: future int;", "u = async k(); y = h(u) + h(u) + await u;", "k", "k > f,k > f 5,k > f 5", []int{0, 1, 1}},
	{"u: future int; v: future int;", "u = async k(); v = async h(u); y = 1;", "h,k", "k > h 5", []int{1}},
	{"u: future int; v: future int;", "v = async h(u); u = async k(); y = await v;", "h,k", "h > f,k > h 5", []int{0, 1}},
	{"u: future int; v: future int;", "v = async deaf(u, x); u = async k(); y = await v;", "deaf,k", "deaf > f,f arg deaf", []int{0, 0}},
	{"u: future int; v: future int;", "v = async pass(u, x); u = async k(); y = 1;", "h,k,pass", "f arg pass,h > pass -6,k > h 5", []int{0, 1, 1}},
	{"u: future int;", "u = async k(); y = pass(u, x);", "h,k", "h > f -6,k > h 5", []int{1, 1}},
	{"u: future int;", "u = async k(); y = deep(u, x);", "h,k", "h > f -6,k > f 4,k > h 5", []int{1, 1, 1}},
	{"u: future int; v: future int;", "u = async k(); v = async deep(u, x); y = 2;", "deep,h,k", "f arg deep,h > deep -6,k > deep 4,k > h 5", []int{0, 1, 1, 1}},
	{"u: future int; v: future int; z: int;", "u = async k(); v = async g(x); (y, z) = two(v, u);", "g,k", "f arg g,g > f 1,k > f 2", []int{0, 1, 1}},
	{"u: future int; v: future int; z: int;", "u = async k(); v = async g(x); (y, z) = two(u, v);", "g,k", "f arg g,g > f 2,k > f 1", []int{0, 1, 1}},
	{"u: future int; v: future int; z: int;", "u = async k(); v = async g(x); (y, z) = two(u, u);", "g,k", "f arg g,k > f 1,k > f 2", []int{0, 1, 1}},
	// futures in rings
	{"u: future int;", "u = async h(u); y = 1;", "h", "h > h 5", []int{1}},
	{"u: future int;", "u = async ring(x, u); y = await u;", "ring", "f arg ring,ring > f,ring > ring 0", []int{0, 0, 1}},
	{"u: future int; v: future int;", "u = async h(v); v = async h(u); y = x;", "h,h", "h > h 5,h > h 5", []int{1, 1}},
	{"u: future int; v: future int;", "u = async h(v); v = async pass(u, x); y = x;", "h,h,pass", "f arg pass,h > h 5,h > pass -6,pass > h 5", []int{0, 1, 1, 1}},
	// nodes that are laid out more than once, and such as run by themselves more than once
	{"", "y = on(x);", "g", "f arg g,g > f 3", []int{0, 1}},
	{"", "y = four(on(x));", "g,g,g,g,g", strings.Repeat("f arg g,", 5) + strings.Repeat("g > f 3,", 4) + "g > f 3", []int{0, 0, 0, 0, 0, 1, 1, 1, 1, 1}},
	{"u: future int;", "u = async four(x); y = 1;", "four,g,g,g,g", "f arg four,four arg g,four arg g,four arg g,four arg g,g > four 3,g > four 3,g > four 3,g > four 3", []int{0, 0, 0, 0, 0, 1, 1, 1, 1}},
	{"u: future int; v: future int;", "u = async on(x); v = async on(x); y = on(await v);", "g,g,g,on,on", "f arg g,f arg on,f arg on,g > f 3,g > on 3,g > on 3,on > f,on arg g,on arg g", []int{0, 0, 0, 0, 0, 0, 1, 1, 1}},
	{"u: future int;", "u = async g(on(on(x))); y = pass(u, on(2));", "g,g,g,g,h", "f arg g,f arg g,f arg g,f arg g,g > f 3,g > f 3,g > f 3,g > h 5,h > f -6", []int{0, 0, 0, 0, 1, 1, 1, 1, 1}},
	// what is on a clock has no part in it, but may stand beside
	{"u: future int; m: int when c;", "u = async g(merge c (m) (0)); m = g(x when c); y = merge c (await u when c) (g(x when not c));", "g", "f arg g,g > f", []int{0, 0}},
	{"u: future int; m: int when c;", "u = async k(); m = deaf(u, x when c); y = on(merge c (m) (2));", "g,k", "f arg g,g > f 3", []int{0, 1}},
}

func TestPlans(t *testing.T) {
	for _, x := range plans {
		p := planOf(t, withVars(x.vars, x.eqs))
		crew := strings.FieldsFunc("f,"+x.crew, func(r rune) bool { return r == ',' })
		slices.Sort(crew)
		if got := crewOf(p); !slices.Equal(got, crew) || p.Len() != len(crew) {
			t.Errorf("of %q there are %d workers %v, want %v", x.eqs, p.Len(), got, crew)
		}
		var edges []string
		if x.edges != "" {
			edges = strings.Split(strings.NewReplacer(" arg ", " calls ", " > ", " comes to ").Replace(x.edges), ",")
			slices.Sort(edges)
		}
		if got := edgesOf(p); !slices.Equal(got, edges) {
			t.Errorf("of %q there are the edges %q, want %q", x.eqs, got, edges)
		}
		if got := p.Depths(); !slices.Equal(got, x.depths) {
			t.Errorf("of %q there are the depths %v, want %v", x.eqs, got, x.depths)
		}
	}
}

// TestFirst: the first node is the one that runs, wherever in the text, and whatever stands behind it.
func TestFirst(t *testing.T) {
	for text, want := range map[string]string{
		"-- a remark\nnode a() returns (y: int) let y = 1; tel node f(x: int) returns (y: int) var u: future int; let u = async a(); y = await u; tel": "a",
		"node f(x: int) returns (y: int) var u: future int; let u = async a(); y = await u; tel node a() returns (y: int) let y = 1; tel":              "a f",
		"node nothing() returns () let tel node a() returns (y: int) let y = 1; tel":                                                                   "nothing",
		"node f() returns () var u: future int; let u = async f2(); tel node f2() returns (y: int) let y = 1; tel":                                     "f f2",
	} {
		if got := strings.Join(crewOf(planOf(t, text)), " "); got != want {
			t.Errorf("of %q there are workers of %q, want %q", text, got, want)
		}
	}
}
