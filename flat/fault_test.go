package flat_test

import (
	"strings"
	"testing"

	"girandole/api"
)

// program: a first node f that declares these names, too, and has these equations; and other nodes.
func program(vars, eqs string, others ...string) string {
	return "node f(a: int, c: bool) returns (y: int) var u: future int; " + vars + " let u = async id(a); " + eqs + " tel\n" +
		"node id(x: int) returns (y: int) let y = x; tel\n" +
		"node pair(x: int, c: bool) returns (y: int, z: bool) let y = x; z = c; tel\n" + strings.Join(others, "\n")
}

// The nodes that can't be on a clock, and such as call them; each with the mark where its fault is told.
const (
	waits  = "node waits(u: future int, x: int) returns (y: int) let y = x + |await u after (0); tel\n"
	hands  = "node hands(u: future int, x: int) returns (y: int) let y = id(x) + waits(u, x); tel\n"
	starts = "node starts(x: int) returns (y: int) var v: future int; let y = x; v = async |id(x); tel\n"
	calls  = "node calls(x: int) returns (y: int) let y = id(x) -> pre starts(x); tel\n"
)

// calling: what stands for F( in equations, and the nodes that they come to.
var calling = [...]struct{ call, nodes string }{
	{"waits(u, ", waits}, {"hands(u, ", hands + waits}, {"starts(", starts}, {"calls(", starts + calls},
}

// onClock, offClock: ways in which a node F may be called, on a clock and not.
var onClock = [...]struct{ vars, eqs string }{
	{"k: int when c;", "y = 1; k = F(a when c);"},
	{"k: int when not c;", "y = 1; k = F(1);"},
	{"k: int when c;", "y = 1; k = 1 + F(k);"},
	{"k: int when c;", "y = 1; k = 0 -> pre F(k);"},
	{"k: int when c; e: bool when c; m: int when e;", "y = 1; k = 1; e = true; m = F(1);"},
	{"k: int when c; e: bool when c; m: int when e;", "y = 1; k = 1; e = true; m = F(k) when e;"},
	{"k: int when c; b: bool when c;", "y = 1; (k, b) = pair(F(1), true);"},
	{"", "y = merge c (F(a when c)) (0);"},
	{"", "y = merge c (0) (F(a when not c));"},
	{"", "y = merge c (id(F(1))) (0);"},
	{"", "y = id(merge c (1 when c) (2 fby F(1)));"},
	{"b: bool;", "(y, b) = pair(merge c (F(1)) (0), c);"},
	{"w: future int;", "y = 1; w = async id(merge c (F(1)) (0));"},
}
var offClock = [...]struct{ vars, eqs string }{
	{"", "y = F(a);"},
	{"", "y = 0 -> pre F(-F(a));"},
	{"", "y = if F(1) > 2 then await u after (1) else id(F(2));"},
	{"k: int when c;", "y = 1; k = F(a) when c;"},
	{"", "y = merge c (F(a) when c) (id(F(1) when not c));"},
	{"k: int when c; e: bool when c; m: int when e;", "y = 1; k = 1; e = true; m = F(2) when c when e;"},
	{"b: bool;", "(y, b) = pair(F(merge c (1) (2)), c);"},
	{"w: future int;", "y = 1; w = async id(F(3));"},
	{"w: future int;", "y = await w after (1); w = async F(3);"},
}

func TestOnClock(t *testing.T) {
	for _, f := range calling {
		for _, x := range onClock {
			refused(t, program(x.vars, strings.ReplaceAll(x.eqs, "F(", f.call), f.nodes), "f", api.ErrClock)
		}
		for _, x := range offClock {
			l := programOf(t, strings.ReplaceAll(program(x.vars, strings.ReplaceAll(x.eqs, "F(", f.call), f.nodes), "|", ""))
			for _, n := range l {
				unitOf(t, l, n.Name)
			}
		}
	}
}

// TestBelowClock: what is called on a clock has all that it calls on it, too; what isn't may have clocks of its own.
func TestBelowClock(t *testing.T) {
	const inner = "node inner(x: int, c: bool) returns (y: int) let y = merge c (starts(x when c)) (0); tel"
	const outer = "node outer(x: int, c: bool) returns (y: int) var k: int when c; let k = id(x when c); y = calls(merge c (k) (0)); tel"
	for _, name := range []string{"f", "inner"} {
		refused(t, program("", "y = inner(a, c);", starts, inner), name, api.ErrClock)
	}
	nodes := strings.ReplaceAll(starts+calls+outer, "|", "")
	l := programOf(t, program("", "y = outer(a, c);", nodes))
	for _, name := range []string{"f", "outer", "calls", "starts"} {
		unitOf(t, l, name)
	}
	refused(t, program("", "y = merge c (0) (outer(1, true));", starts, calls, outer), "f", api.ErrClock)
	refused(t, program("", "y = outer(outer(a, c), c) + merge c (outer(2, c when c)) (0);", starts, calls, outer), "f", api.ErrClock)
}

// TestAloneOnClock: a node that runs by itself is in no clock's unit, whatever stands in it.
func TestAloneOnClock(t *testing.T) {
	const inner = "node inner(x: int, c: bool) returns (y: int) let y = merge c (starts(x when c)) (0); tel"
	text := program("w: future int;", "y = await w after (1); w = async inner(a, c);", starts, inner)
	unitOf(t, programOf(t, strings.Replace(text, "|", "", 1)), "f")
	refused(t, text, "inner", api.ErrClock)
}

// TestFirstInNode: in a node that is on a clock all async equations come first; then equation by equation, in
// each kid by kid, with what is called there, what is below ahead.
func TestFirstInNode(t *testing.T) {
	const late = "node late(w: future int, x: int) returns (y: int) let y = x + |await w; tel\n"
	const start = "node start(x: int) returns (y: int) var v: future int; let y = x; v = async |id(x); tel\n"
	for _, x := range []struct{ vars, eqs, called string }{
		{"v: future int;", "y = await w; v = async |id(x);", ""},
		{"v: future int; k: int;", "y = id(await w) + late(w, x) + start(x); k = 1; v = async |id(start(await w));", ""},
		{"v: future int; s: future int;", "y = 1; v = async |id(x); s = async id(x);", ""},
		{"v: future int; s: future int;", "y = start(1); s = async |id(x); v = async start(x);", ""},
		{"", "y = 1 + |await w + await w;", ""},
		{"k: int; m: int;", "y = 1; k = -|await w; m = await w;", ""},
		{"", "y = id(|await w) + late(w, 1);", ""},
		{"", "y = late(w, |await w);", ""},
		{"", "y = start(id(late(w, 1 + |await w)));", ""},
		{"", "y = |await w + late(w, 1) + start(1);", ""},
		{"", "y = (0 -> pre |await w) - start(1);", ""},
		{"k: int;", "k = 1 fby |await w; y = start(1);", ""},
		{"k: int;", "y = merge d (1) (id(0)); k = holds(w, |await w); ", ""},
		{"", "y = late(w, 1) + await w;", late},
		{"", "y = late(w, 1) + start(1);", late},
		{"", "y = late(w, start(2));", start},
		{"", "y = id(start(1)) - late(w, await w);", start},
		{"k: int;", "y = merge d (1) (start(1)); k = late(w, await w);", start},
		{"k: int;", "y = holds(w, 1) -> pre late(w, 1); k = start(await w); ", late},
		{"", "y = waits2(w, start(1));", start},
		{"k: int;", "k = waits2(w, 1); y = await w + start(1);", late},
	} {
		if x.vars != "" {
			x.vars = "var " + x.vars
		}
		text := program("", "y = merge c (g(u, 1, true)) (0);",
			"node g(w: future int, x: int, d: bool) returns (y: int) "+x.vars+" let "+x.eqs+" tel",
			"node holds(w: future int, x: int) returns (y: int) let y = x; tel",
			"node waits2(w: future int, x: int) returns (y: int) let y = late(w, x); tel\n")
		for _, n := range []string{late, start} {
			if n != x.called {
				n = strings.Replace(n, "|", "", 1)
			}
			text += n
		}
		refused(t, text, "f", api.ErrClock)
	}
}

// TestFirstOfAll: nodes are laid out where they are called, each with all its equations counted ahead of what
// else is told of it.
func TestFirstOfAll(t *testing.T) {
	const clocked = "node clocked(x: int) returns (y: int) var c: bool; let c = x > 0; y = merge c (bad(1)) (0); tel " // 7
	const bad = "node bad(x: int) returns (y: int) var v: future int; let y = x; v = async id(x); tel " +              // 3
		"node id(x: int) returns (y: int) let y = x; tel "
	nodes := clocked + bad
	marked := clocked + strings.Replace(bad, "async ", "async |", 1)
	for _, size := range []int{1499, 1498, 1492, 1491, 1489} {
		refused(t, nodeOf("|f", size, "clocked(x)")+nodes, "f", api.ErrLimits)
	}
	refused(t, nodeOf("f", 1488, "clocked(x)")+marked, "f", api.ErrClock)
	for _, x := range []struct {
		size  int // of another node, that is called
		more  []string
		clock bool
	}{
		{1490, []string{"clocked(x)", "big(x)"}, true},
		{1490, []string{"big(x)", "clocked(x)"}, false},
		{1486, []string{"big(x)", "clocked(x)"}, false},
		{1485, []string{"big(x)", "clocked(x)"}, true},
		{1490, []string{"clocked(x) + big(x)"}, true},
		{1490, []string{"big(x) + clocked(x)"}, false},
		{1490, []string{"big(clocked(x))"}, true},
		{1490, []string{"clocked(big(x))"}, false},
		{1487, []string{"clocked(big(x))"}, false},
		{1486, []string{"clocked(big(x))"}, true},
		{1501, []string{"clocked(x)", "big(x)"}, true},
		{1501, []string{"id(x)", "big(x)"}, false},
	} {
		if big := nodeOf("big", x.size); x.clock {
			refused(t, nodeOf("f", 1, x.more...)+big+marked, "f", api.ErrClock)
		} else {
			refused(t, nodeOf("|f", 1, x.more...)+big+nodes, "f", api.ErrLimits)
		}
	}
}
