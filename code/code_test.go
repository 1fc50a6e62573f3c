package code_test

import (
	"fmt"
	"slices"
	"strings"
	"testing"

	"girandole/code"
)

// TestExample: the document's own.
func TestExample(t *testing.T) {
	c := lowered(t, "node f(x: int) returns (y: int) let y = x + 1; tel")
	if c.Len() != 1 || c.In != 1 || c.Out != 1 || c.Long() < 2 || len(c.Edges) != 0 {
		t.Errorf("Len %d, In %d, Out %d, Long %d, edges %v", c.Len(), c.In, c.Out, c.Long(), c.Edges)
	}
}

// TestPorts: as many come in, and go out, as the first node has, whatever others have.
func TestPorts(t *testing.T) {
	for _, x := range [...]struct {
		text         string
		len, in, out int
	}{
		{"node f() returns () let tel", 1, 0, 0},
		{"node f(x: int, c: bool, z: int) returns () let tel", 1, 3, 0},
		{"node f() returns (y: int, z: bool) let y = 1; z = true; tel", 1, 0, 2},
		{"node f(x: int) returns (y: int, z: int) let (y, z) = h(x, x, true); tel node h(a: int, b: int, c: bool) returns (d: int, e: int) let d = a; e = if c then b else 1; tel", 1, 1, 2},
		{"node f() returns (y: int) var u: future int; let u = async h(1, 2); y = await u after (0); tel node h(a: int, b: int) returns (d: int) let d = a - b; tel", 2, 0, 1},
		{"node f(x: int, b: bool) returns () var u: future int; let u = async k(); tel node k() returns (d: int) let d = 1; tel", 2, 2, 0},
		{"node f(x: int) returns (y: int) let y = x; tel node h(a: int, b: int) returns (d: int) let d = a - b; tel", 1, 1, 1},
	} {
		c := lowered(t, x.text)
		if c.Len() != x.len || c.In != x.in || c.Out != x.out {
			t.Errorf("of %q: Len %d, In %d, Out %d, want %d, %d, %d", x.text, c.Len(), c.In, c.Out, x.len, x.in, x.out)
		}
	}
}

// sound: programs whose first node has x: int, c: bool, and y: int; how many workers each has, and its edges,
// sorted, as from, to, room, and values ahead, where a worker is its node.
var sound = [...]struct {
	vars, eqs string
	len       int
	edges     []string
}{
	{"", "y = x;", 1, nil},
	{"", "y = (0 -> pre x) + g(x) + k() + g3(x, c, 2);", 1, nil},
	{"m: int when c;", "m = 4 fby (x when c) + m; y = merge c (m) (0 -> pre (x when not c));", 1, nil},
	{"u: future int;", "u = async k(); y = x;", 2, nil},
	{"u: future int;", "u = async k(); y = await u;", 2, []string{"k f 1 []"}},
	{"u: future int;", "u = async g(x); y = x;", 2, []string{"f g 1 []"}},
	{"u: future int;", "u = async g(x); y = await u after (0);", 2, []string{"f g 1 []", "g f 2 [0]"}},
	{"u: future int;", "u = async g(7); y = await u after (0);", 2, []string{"f g 1 []", "g f 2 [0]"}},
	{"u: future int;", "u = async g3(x, c, 2 fby x); y = await u after (1, -2, 3, -4, 5, -6, 7, -8);", 2,
		[]string{"f g3 1 []", "f g3 1 []", "f g3 1 []", "g3 f 9 [1 -2 3 -4 5 -6 7 -8]"}},
	{"u: future int;", "y = await u + 2 * await u - await u after (8, 9); u = async k();", 2, []string{"k f 1 []", "k f 1 []", "k f 3 [8 9]"}},
	{"u: future int; v: future int;", "u = async k(); v = async g(await u); y = 1;", 3, []string{"f g 1 []", "k f 1 []"}},
	{"u: future bool; v: future bool;", "v = async flags(u); u = async t(c, x); y = if await v after (true) then x else 0;", 3,
		[]string{"f t 1 []", "f t 1 []", "flags f 2 [1]", "t flags 3 [1 0]"}},
	{"u: future int;", "u = async k(); y = late(u) * late(u) + await u;", 2, []string{"k f 1 []", "k f 2 [5]", "k f 2 [5]"}},
	{"u: future int;", "u = async k(); y = deaf(u, x);", 2, nil},
	{"u: future int; v: future int;", "v = async pass(u, x); u = async k(); y = await v after (4);", 4,
		[]string{"f pass 1 []", "k late 2 [5]", "late pass 2 [-6]", "pass f 2 [4]"}},
	{"u: future int; v: future int; z: int;", "u = async k(); v = async g(x); (z, y) = two(v, u);", 3, []string{"f g 1 []", "g f 2 [1]", "k f 2 [2]"}},
	{"u: future int;", "u = async ring(x, u); y = await u after (0);", 2, []string{"f ring 1 []", "ring f 2 [0]", "ring ring 2 [0]"}},
	{"u: future int; v: future int;", "u = async ring(1, v); v = async ring(x, u); y = await u after (5);", 3,
		[]string{"f ring 1 []", "f ring 1 []", "ring f 2 [5]", "ring ring 2 [0]", "ring ring 2 [0]"}},
	{"u: future int; v: future int;", "u = async late(v); v = async now(u); y = await v;", 3, []string{"late now 1 []", "now f 1 []", "now late 2 [5]"}},
	{"u: future int;", "u = async on(x); y = on(await u after (0)) - on(on(same(x)));", 6,
		[]string{"f g 1 []", "f g 1 []", "f g 1 []", "f on 1 []", "g f 2 [3]", "g f 2 [3]", "g f 2 [3]", "g on 2 [3]", "on f 2 [0]", "on g 1 []"}},
	{"u: future int; m: int when c;", "u = async k(); m = (await u after (9)) when c; y = merge c (m) (g(x when not c));", 2, []string{"k f 2 [9]"}},
	{"u: future int; v: future int;", "u = async same(x); v = async same(0 fby x); y = await u after (0) + await v after (0);", 3,
		[]string{"f same 1 []", "f same 1 []", "same f 2 [0]", "same f 2 [0]"}},
}

// edgesOf: edges as texts, sorted, where a worker is its node.
func edgesOf(c *code.Program) []string {
	var l []string
	for _, e := range c.Edges {
		l = append(l, fmt.Sprint(c.Workers[e.From].Node, " ", c.Workers[e.To].Node, " ", e.Room, " ", e.Ahead))
	}
	slices.Sort(l)
	return l
}

func TestEdges(t *testing.T) {
	for _, x := range sound {
		c := lowered(t, withVars(x.vars, x.eqs))
		if c.Len() != x.len || c.In != 2 || c.Out != 1 {
			t.Errorf("of %q: Len %d, In %d, Out %d, want %d, 2, 1", x.eqs, c.Len(), c.In, c.Out, x.len)
		}
		if got := edgesOf(c); !slices.Equal(got, x.edges) {
			t.Errorf("of %q there are the edges %q, want %q", x.eqs, got, x.edges)
		}
	}
}

// TestLong: the longest row counts, whichever worker has it; one instruction is there at least.
func TestLong(t *testing.T) {
	if c := lowered(t, "node f() returns () let tel"); c.Long() != 1 {
		t.Errorf("of a node without anything: %d", c.Long())
	}
	if c := new(code.Program); c.Len() != 0 || c.Long() != 1 {
		t.Errorf("of no workers: Len %d, Long %d", c.Len(), c.Long())
	}
	row := func(n int) code.Worker { return code.Worker{Ins: make([]code.Ins, n)} }
	for _, x := range [...]struct {
		workers []code.Worker
		want    int
	}{
		{[]code.Worker{row(0)}, 1}, {[]code.Worker{row(0), row(0)}, 1}, {[]code.Worker{row(1), row(0)}, 1},
		{[]code.Worker{row(4), row(3)}, 4}, {[]code.Worker{row(2), row(5), row(3)}, 5}, {[]code.Worker{row(1), row(2), row(9)}, 9},
	} {
		if c := (&code.Program{Workers: x.workers}); c.Len() != len(x.workers) || c.Long() != x.want {
			t.Errorf("of %v: Len %d, Long %d, want %d", x.workers, c.Len(), c.Long(), x.want)
		}
	}
}

// TestLongest: a row is as long as what its worker asks at least, be it the first node's worker, or another one.
func TestLongest(t *testing.T) {
	kids := strings.Repeat("x, ", 29) + "x"
	var ins []string
	for i := range 30 {
		ins = append(ins, fmt.Sprintf("a%d: int", i))
	}
	h := " node h(" + strings.Join(ins, ", ") + ") returns (b: int) let b = a0 " + strings.Repeat("+ a1 ", 30) + "; tel"
	few := lowered(t, "node f(x: int) returns (y: int) let y = x; tel"+h)
	many := lowered(t, "node f(x: int) returns (y: int) var u: future int; let y = x; u = async h("+kids+"); tel"+h)
	if few.Long() >= many.Long() || many.Long() < 32 {
		t.Errorf("one worker: %d, one that hands over 30 values: %d", few.Long(), many.Long())
	}
	far := lowered(t, "node f() returns (y: int) var u: future int; let y = 1; u = async e(1); tel"+
		" node e(x: int) returns (y: int) var u: future int; let y = x; u = async h("+kids+"); tel"+h)
	if far.Long() < 31 {
		t.Errorf("a worker far from the first one that hands over 30 values: %d", far.Long())
	}
}
