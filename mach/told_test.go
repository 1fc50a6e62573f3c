package mach_test

import (
	"testing"

	"girandole/balance"
	"girandole/clocks"
	"girandole/code"
	"girandole/inits"
	"girandole/lex"
	"girandole/names"
	"girandole/parse"
	"girandole/split"
	"girandole/tree"
	"girandole/types"
)

// codeOf: the nodes of a text, and their code, if no layer below tells a fault of them.
func codeOf(text string) ([]tree.Node, *code.Program, lex.Fault) {
	l, f := parse.Program(text)
	for _, check := range [...]func(l []tree.Node) lex.Fault{names.Check, types.Check, clocks.Check, inits.Check} {
		if f == (lex.Fault{}) {
			f = check(l)
		}
	}
	if f != (lex.Fault{}) {
		return nil, nil, f
	}
	p, f := split.Split(l)
	if f == (lex.Fault{}) {
		f = balance.Check(p)
	}
	if f != (lex.Fault{}) {
		return nil, nil, f
	}
	return l, code.Lower(p), f
}

func lowered(t *testing.T, text string) ([]tree.Node, *code.Program) {
	t.Helper()
	l, p, f := codeOf(text)
	if f != (lex.Fault{}) {
		t.Fatalf("%q: %+v; want no fault below", text, f)
	}
	return l, p
}

// library: nodes that are called, at once or by themselves.
const library = `
node sum(a: int) returns (b: int) let b = a + (0 -> pre b); tel
node more(a: int) returns (b: int) let b = a + 1; tel
node less(a: int, b: int) returns (c: int) let c = a - b; tel
node count() returns (b: int) let b = 1 fby b + 1; tel
node same(a: int) returns (b: int) let b = 9 fby a; tel
node over(a: int, d: bool, b: int) returns (e: bool) let e = a > b xor d; tel
node late(w: future int) returns (b: int) let b = await w after (5) * 2; tel
node now(w: future int) returns (b: int) let b = await w; tel
node deaf(w: future int, a: int) returns (b: int) let b = 4 -> pre a; tel
node ring(a: int, w: future int) returns (b: int) let b = a - await w after (0, 3); tel
node pass(w: future int, a: int) returns (b: int) var v: future int; let v = async late(w); b = a + await v after (-6); tel
node on(a: int) returns (b: int) var v: future int; let v = async more(a); b = await v after (3); tel
node two(v: future int, w: future int) returns (b: int, c: int) let b = await v after (1); c = await w after (2); tel
node flags(w: future bool) returns (b: bool) let b = await w after (true, false); tel
`

// withVars: a program whose first node declares these names, too, and has these equations.
func withVars(vars, eqs string) string {
	if vars != "" {
		vars = "var " + vars
	}
	return "node f(x: int, c: bool) returns (y: int) " + vars + " let " + eqs + " tel" + library
}

// sound: programs of one worker, and of more: how many workers, how many values stand ahead, for how many there
// is room, and what y is of soundRows.
var sound = [...]struct {
	vars, eqs            string
	workers, ahead, room int
	want                 []int64
}{
	{"", "y = 7;", 1, 0, 0, []int64{7, 7, 7, 7, 7}},
	{"", "y = x + 1;", 1, 0, 0, []int64{11, 21, 31, 41, 51}},
	{"", "y = 0 -> pre y + x;", 1, 0, 0, []int64{0, 20, 50, 90, 140}},
	{"k: int when c;", "k = sum(x when c); y = merge c (k) (-1);", 1, 0, 0, []int64{10, -1, 40, -1, 90}},
	{"u: future int;", "u = async count(); y = x;", 2, 0, 0, []int64{10, 20, 30, 40, 50}},
	{"u: future int;", "u = async count(); y = await u;", 2, 0, 1, []int64{1, 2, 3, 4, 5}},
	{"u: future int;", "u = async more(x); y = x;", 2, 0, 1, []int64{10, 20, 30, 40, 50}},
	{"u: future int;", "u = async more(x); y = await u after (0);", 2, 1, 3, []int64{0, 11, 21, 31, 41}},
	{"u: future int;", "u = async more(7); y = await u after (0);", 2, 1, 3, []int64{0, 8, 8, 8, 8}},
	{"u: future int;", "u = async less(x, 1 fby x); y = await u after (7, 8);", 2, 2, 5, []int64{7, 8, 9, 10, 10}},
	{"u: future int;", "u = async sum(x); y = await u after (8, 7, 6, 5, 4, 3, 2, 1);", 2, 8, 10, []int64{8, 7, 6, 5, 4}},
	{"u: future int;", "y = await u + 2 * await u - await u after (8, 9); u = async count();", 2, 2, 5, []int64{3 - 8, 6 - 9, 9 - 1, 12 - 2, 15 - 3}},
	{"u: future int;", "u = async more(5 fby x); y = await u after (0);", 2, 1, 3, []int64{0, 6, 11, 21, 31}},
	{"u: future int;", "u = async same(x); y = await u after (0);", 2, 1, 3, []int64{0, 9, 10, 20, 30}},
	{"u: future int;", "u = async sum(x + y); y = await u after (-1);", 2, 1, 3, []int64{-1, 9, 38, 106, 252}},
	{"u: future int;", "u = async ring(x, u); y = await u after (-1);", 2, 3, 6, []int64{-1, 10, 17, 20, 23}},
	{"u: future int;", "u = async deaf(u, x); y = await u after (0);", 2, 1, 3, []int64{0, 4, 10, 20, 30}},
	{"u: future int; v: future int;", "u = async late(v); v = async count(); y = await u;", 3, 1, 3, []int64{10, 2, 4, 6, 8}},
	{"u: future int; v: future int;", "u = async late(v); v = async now(u); y = await v;", 3, 1, 4, []int64{10, 20, 40, 80, 160}},
	{"u: future int; v: future int;", "u = async ring(1, v); v = async ring(x, u); y = await u after (5);", 3, 5, 10, []int64{5, 1, -2, -9, -16}},
	{"u: future int; v: future int; z: int;", "u = async count(); v = async more(x); (y, z) = two(v, u);", 3, 2, 5, []int64{1, 11, 21, 31, 41}},
	{"u: future int; v: future int; z: int;", "u = async count(); v = async more(x); (z, y) = two(v, u);", 3, 2, 5, []int64{2, 1, 2, 3, 4}},
	{"u: future int; v: future int;", "v = async pass(u, x); u = async count(); y = await v after (4);", 4, 3, 7, []int64{4, 10 - 6, 20 + 10, 30 + 2, 40 + 4}},
	{"u: future int; m: int when c;", "u = async count(); m = (await u after (9)) when c; y = merge c (m) (0);", 2, 1, 2, []int64{9, 0, 2, 0, 4}},
	{"u: future bool; v: future bool;", "v = async flags(u); u = async over(x, c, 25); y = if await v after (true) then x else 0;", 3, 3, 8, []int64{10, 20, 0, 40, 0}},
	{"", "y = on(on(x));", 3, 2, 6, []int64{3, 4, 12, 22, 32}},
	{"u: future int;", "u = async on(x); y = on(await u after (0)) - on(on(same(x)));", 6, 5, 15, []int64{0, 1 - 4, 4 - 11, 12 - 12, 22 - 22}},
}

var soundRows = [][]int64{{10, 1}, {20, 0}, {30, 1}, {40, 0}, {50, 1}}
