package compile_test

import (
	"slices"
	"strconv"
	"strings"
	"testing"

	"girandole/api"
	"girandole/compile"
	"girandole/lex"
	"girandole/tree"
)

// TestExample: the document's own.
func TestExample(t *testing.T) {
	l, p := taken(t, "node f(x: int) returns (y: int) let y = x + 1; tel", 1)
	if len(l) != 1 || l[0].Name != "f" || l[0].At != 5 || p.In != 1 || p.Out != 1 {
		t.Errorf("Compile: %+v, %d in, %d out", l, p.In, p.Out)
	}
	if got := says(t, l, p, [][]int64{{5}, {6}}); len(got) != 1 || !slices.Equal(got[0], []int64{6, 7}) {
		t.Errorf("it says %v", got)
	}
}

// slot is a piece of a text, sound, or with a fault: of what kind, and how far behind that piece's begin (or at
// a place of the text, where there is a mark).
type slot struct {
	good, bad string
	err       api.Errno
	off       int
	mark      string
}

// slots: one of each layer that tells faults, and of each kind that Split tells, the first one first. In the text
// they stand in the other order, so that the first fault isn't the one that stands first.
var slots = [...]slot{
	{"", "?", api.ErrForm, 0, ""},
	{"m = x;", "m = x);", api.ErrForm, 5, ""},
	{"e = x;", "e = q;", api.ErrName, 4, ""},
	{"d = 1;", "d = true;", api.ErrType, 0, ""},
	{"b = x;", "b = x when c;", api.ErrClock, 6, ""},
	{"a = 0 -> pre x;", "a = pre x;", api.ErrInit, 4, ""},
	{"k = merge c (one(x when c)) (0);", "k = merge c (hid(x when c)) (0);", api.ErrClock, 0, "one(a); b = await"},
	{"z = 0 -> pre z;", "z = z + 1;", api.ErrCycle, 0, "f(x: int"},
	{"v = async six(x);", "v = async all(x);", api.ErrLimits, 0, "f(x: int"},
	{"y = await u after (0);", "y = await u;", api.ErrDelay, 0, "f(x: int"},
}

// spoilt: a text of which some slots are spoilt, one a bit, and the place of each slot.
func spoilt(which int) (string, []int) {
	text, at := `node f(x: int, c: bool) returns (y: int) var u: future int; v: future int; z: int; k: int; a: int; b: int; d: int; e: int; m: int;
let u = async one(x); `, make([]int, len(slots))
	for i := len(slots) - 1; i >= 0; i-- {
		if i == 0 {
			text += ` tel
node one(a: int) returns (b: int) let b = a; tel
node hid(a: int) returns (b: int) var u: future int; let u = async one(a); b = await u after (0); tel
node six(a: int) returns (b: int) var p: future int; q: future int; r: future int; s: future int; t: future int; u: future int;
let p = async one(a); q = async one(a); r = async one(a); s = async one(a); t = async one(a); u = async one(a); b = a; tel
node all(a: int) returns (b: int) var p: future int; q: future int; r: future int; s: future int;
let p = async six(a); q = async six(a); r = async six(a); s = async six(a); b = a; tel `
		}
		at[i] = len(text)
		if which>>i&1 == 1 {
			text += slots[i].bad + " "
		} else {
			text += slots[i].good + " "
		}
	}
	return text, at
}

// TestFirstFault: of all faults that there are together the first layer's is told, where none is left none.
func TestFirstFault(t *testing.T) {
	for which := range 1 << len(slots) {
		text, at := spoilt(which)
		if which == 0 {
			l, p := taken(t, text, 1+1+1+6)
			said := says(t, l, p, rowsOf(5))
			again(t, l, lex.Fault{}, rowsOf(5), said)
			continue
		}
		first := 0
		for which>>first&1 == 0 {
			first++
		}
		x := slots[first]
		place := at[first] + x.off
		if x.mark != "" {
			place = strings.Index(text, x.mark)
		}
		refused(t, text, place, x.err)
	}
}

// rowsOf an int and a truth, so many.
func rowsOf(n int) [][]int64 {
	var l [][]int64
	for i := range int64(n) {
		l = append(l, []int64{7*i - 9, i % 3 & 1})
	}
	return l
}

// TestFaults: each kind that there is, at its place.
func TestFaults(t *testing.T) {
	const head = "node f(x: int, c: bool) returns (y: int) "
	const g = " node g(a: int) returns (b: int) let b = a; tel"
	for _, x := range [...]struct {
		text, at string
		err      api.Errno
	}{
		{head + "let y = 07; tel", "07", api.ErrForm},
		{head + "let y = x tel", "tel", api.ErrForm},
		{head + "let y = x + 1 fby x; tel", "fby", api.ErrForm},
		{head + "let y = 9223372036854775808; tel", "922", api.ErrBig},
		{head + "let y = " + strings.Repeat("a", 31) + "; tel", "aaa", api.ErrBig},
		{head + "let y = z; tel", "z;", api.ErrName},
		{head + "let y = x; z = x; tel", "z =", api.ErrName},
		{head + "let tel", "y: int", api.ErrName},
		{head + "let y = h(x); tel" + g, "h(", api.ErrName},
		{head + "let y = x; y = 1; tel", "y = 1", api.ErrTwice},
		{head + "let y = x; tel node f() returns () let tel", "f() ", api.ErrTwice},
		{head + "let y = g(x, x); tel" + g, "g(x", api.ErrMany},
		{head + "let y = f(x, c); tel", "f(x: ", api.ErrCycle},
		{head + "let y = c; tel", "y = c", api.ErrType},
		{head + "let y = x + true; tel", "true", api.ErrType},
		{head + "let y = x / 0; tel", "0;", api.ErrZero},
		{head + "let y = x mod x; tel", "x; tel", api.ErrZero},
		{head + "var u: future int; let u = async g(x); y = await u after (1, 2, 3, 4, 5, 6, 7, 8, 9); tel" + g, "await", api.ErrBig},
		{head + "let y = x when c; tel", "when", api.ErrClock},
		{head + "var k: bool when k; let k = true; y = x; tel", "k: bool", api.ErrCycle},
		{head + "let y = 0 -> pre pre x; tel", "pre x", api.ErrInit},
		{head + "let y = x + y; tel", "f(x", api.ErrCycle},
		{head + "var u: future int; let u = async g(x); y = x; tel node g(a: int) returns (b: int) let b = b; tel", "g(a", api.ErrCycle},
		{head + "var u: future int; let u = async g(x); y = await u; tel" + g, "f(x", api.ErrDelay},
		{head + "let y = merge c (h(x when c)) (0); tel node h(a: int) returns (b: int) var u: future int; let u = async g(a); b = 1; tel" + g, "g(a);", api.ErrClock},
	} {
		refused(t, x.text, strings.Index(x.text, x.at), x.err)
	}
	for _, text := range []string{"", " \n\t", "-- node", "node", head, head + "let", head + "let y = x", head + "let y = x;"} {
		refused(t, text, len(text), api.ErrEnd)
	}
}

// TestNotRun: of a node that doesn't run it doesn't matter what only a unit can have, but all else does.
func TestNotRun(t *testing.T) {
	const head = "node f(x: int) returns (y: int) let y = x; tel "
	taken(t, head+"node g(x: int) returns (y: int) let y = y + 1; tel", 1)
	taken(t, head+"node g(x: int) returns (y: int) var u: future int; let u = async h(x); y = await u; tel node h(x: int) returns (y: int) let y = x; tel", 1)
	for eq, want := range map[string]lex.Fault{"y = z;": {At: 4, Err: api.ErrName}, "y = true;": {Err: api.ErrType}, "y = pre x;": {At: 4, Err: api.ErrInit}, "y = x when c;": {At: 6, Err: api.ErrClock}, "y = ;": {At: 4, Err: api.ErrForm}} {
		text := head + "node g(x: int, c: bool) returns (y: int) let "
		refused(t, text+eq+" tel", len(text)+want.At, want.Err)
	}
}

// deep: an equation whose expression has so many levels.
func deep(levels int) string {
	return "node f(x: int) returns (y: int) let y = " + strings.Repeat("- ", levels-1) + "x; tel"
}

// calls: a node that calls the next one, so many times each, and so on, nodes of them, the last of which has an
// equation of so many expressions.
func calls(nodes, times, last int, async bool) string {
	text := ""
	for i := range nodes - 1 {
		vars, eqs, kids := "", "", []string{"x"}
		for k := range times {
			call := "n" + strconv.Itoa(i+1) + "(x)"
			if u := "u" + strconv.Itoa(k); async {
				vars += u + ": future int; "
				eqs += u + " = async " + call + "; "
				call = "await " + u + " after (0)"
			}
			kids = append(kids, call)
		}
		if async {
			vars = "var " + vars
		}
		text += "node n" + strconv.Itoa(i) + "(x: int) returns (y: int) " + vars + "let " + eqs + "y = " + strings.Join(kids, " + ") + "; tel\n"
	}
	return text + "node n" + strconv.Itoa(nodes-1) + "(x: int) returns (y: int) let y = x" + strings.Repeat(" + x", last/2) + "; tel"
}

// TestEdges: as many as there may be (of a size nearly as many), and more.
func TestEdges(t *testing.T) {
	whole := "node f(x: int) returns (y: int) let y = x; tel"
	taken(t, whole+strings.Repeat(" ", api.MaxText-len(whole)), 1)
	refused(t, whole+strings.Repeat(" ", api.MaxText+1-len(whole)), api.MaxText, api.ErrBig)
	taken(t, deep(api.MaxDeep), 1)
	refused(t, deep(api.MaxDeep+1), len("node f(x: int) returns (y: int) let y = "), api.ErrBig)
	taken(t, calls(2, 29, 1, true), api.MaxWorker)
	refused(t, calls(2, 30, 1, true), 5, api.ErrLimits)
	l, p := taken(t, calls(2, 20, 71, false), 1) // 1 + 20 * 3 expressions of n0, 20 * 71 of n1
	again(t, l, lex.Fault{}, rowsOf(3), says(t, l, p, rowsOf(3)))
	refused(t, calls(2, 20, 73, false), 5, api.ErrLimits)
	refused(t, calls(20, 2, 1, false), 5, api.ErrLimits)
	refused(t, calls(20, 2, 1, true), 5, api.ErrLimits)
	refused(t, calls(21, 1, 1, true), strings.Index(calls(21, 1, 1, true), "n20(x: "), api.ErrLimits)
	taken(t, calls(20, 1, 1, true), 20)
}

// TestNoNodes: without nodes there is no code, and no fault.
func TestNoNodes(t *testing.T) {
	for _, l := range [][]tree.Node{nil, {}} {
		if p, f := compile.Nodes(l); p != nil || f != (lex.Fault{}) {
			t.Errorf("Nodes of none: code %v, %+v", p != nil, f)
		}
	}
}
