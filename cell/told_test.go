package cell_test

import (
	"testing"

	"girandole/balance"
	"girandole/clocks"
	"girandole/code"
	"girandole/flat"
	"girandole/inits"
	"girandole/lex"
	"girandole/names"
	"girandole/order"
	"girandole/parse"
	"girandole/solo"
	"girandole/split"
	"girandole/tree"
	"girandole/types"
)

// codeOf: that of a text, if no layer below tells a fault of it.
func codeOf(text string) (*code.Program, lex.Fault) {
	l, f := parse.Program(text)
	for _, check := range [...]func(l []tree.Node) lex.Fault{names.Check, types.Check, clocks.Check, inits.Check} {
		if f == (lex.Fault{}) {
			f = check(l)
		}
	}
	if f != (lex.Fault{}) {
		return nil, f
	}
	p, f := split.Split(l)
	if f == (lex.Fault{}) {
		f = balance.Check(p)
	}
	if f != (lex.Fault{}) {
		return nil, f
	}
	return code.Lower(p), f
}

func lowered(t *testing.T, text string) *code.Program {
	t.Helper()
	p, f := codeOf(text)
	if f != (lex.Fault{}) {
		t.Fatalf("%q: %+v; want no fault below", text, f)
	}
	return p
}

// sense: what the first node of a text of one worker says of rows, instant by instant, by layer 11.
func sense(t *testing.T, text string, rows [][]int64) [][]int64 {
	t.Helper()
	l, _ := parse.Program(text)
	u, f := flat.Flatten(l, l[0].Name)
	if f != (lex.Fault{}) {
		t.Fatalf("Flatten(%q): %+v", text, f)
	}
	o, f := order.Sort(u)
	if f != (lex.Fault{}) {
		t.Fatalf("Sort of %q: %+v", text, f)
	}
	s := solo.New(u, o)
	var said [][]int64
	for _, row := range rows {
		said = append(said, s.Step(row...))
	}
	return said
}

// library: nodes that are called, at once or by themselves.
const library = `
node sum(a: int) returns (b: int) let b = a + (0 -> pre b); tel
node back(a: int) returns (b: int) let b = 0 fby 5 fby a; tel
node picks(a: int) returns (b: int) var d: bool; q: int when d; let d = a > 3; q = sum(a when d); b = merge d (q) (-a when not d); tel
node both(a: int, d: bool) returns (b: int, e: bool) let b = if d then a else 9 fby a; e = a > 0 xor d; tel
node more(a: int) returns (b: int) let b = a + 1; tel
node less(a: int, b: int) returns (c: int) let c = a - b; tel
node count() returns (b: int) let b = 1 fby b + 1; tel
node late(w: future int) returns (b: int) let b = await w after (5) * 2; tel
node ring(a: int, w: future int) returns (b: int) let b = a - await w after (0, 3); tel
node deaf(w: future int, a: int) returns (b: int) let b = 4 -> pre a; tel
node on(a: int) returns (b: int) var v: future int; let v = async more(a); b = await v after (3); tel
`

// withVars: a program whose first node declares these names, too, and has these equations.
func withVars(vars, eqs string) string {
	if vars != "" {
		vars = "var " + vars
	}
	return "node f(x: int, c: bool) returns (y: int) " + vars + " let " + eqs + " tel" + library
}
