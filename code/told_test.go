package code_test

import (
	"fmt"
	"slices"
	"strings"
	"testing"

	"girandole/balance"
	"girandole/clocks"
	"girandole/code"
	"girandole/inits"
	"girandole/lex"
	"girandole/names"
	"girandole/parse"
	"girandole/split"
	"girandole/tree"
	"girandole/types"
)

// planOf: that of a text, if no layer below tells a fault of it.
func planOf(text string) (*split.Plan, lex.Fault) {
	l, f := parse.Program(text)
	for _, check := range []func(l []tree.Node) lex.Fault{names.Check, types.Check, clocks.Check, inits.Check} {
		if f == (lex.Fault{}) {
			f = check(l)
		}
	}
	if f != (lex.Fault{}) {
		return nil, f
	}
	p, f := split.Split(l)
	if f == (lex.Fault{}) {
		f = balance.Check(p)
	}
	return p, f
}

func mustPlan(t *testing.T, text string) *split.Plan {
	t.Helper()
	p, f := planOf(text)
	if f != (lex.Fault{}) {
		t.Fatalf("%q: %+v; want no fault below", text, f)
	}
	return p
}

// lowered: the code of a text, if it is whole.
func lowered(t *testing.T, text string) *code.Program {
	t.Helper()
	p := mustPlan(t, text)
	c := code.Lower(p)
	if why := wrong(p, c); why != "" {
		t.Fatalf("Lower of %q %s", text, why)
	}
	return c
}

// wrong: why something can't be the code of a plan.
func wrong(p *split.Plan, c *code.Program) string {
	if c == nil || c.Len() != p.Len() || len(c.Workers) != p.Len() || len(c.Edges) != len(p.Edges) {
		return "has other workers, or edges"
	}
	for i, e := range c.Edges {
		if from := p.Edges[i]; e.From != from.From || e.To != from.To || e.Room != len(from.Ahead)+1 || !slices.Equal(e.Ahead, from.Ahead) {
			return fmt.Sprintf("has the edge %+v, of %+v", e, from)
		}
	}
	long := 1
	for i, w := range c.Workers {
		if got, want := asks(w.Ins), asked(p, i); !slices.Equal(got, want) {
			return fmt.Sprintf("has the worker %d that asks %q, want %q", i, got, want)
		}
		if !slices.Equal(w.Plan, p.Workers[i].Order) || w.Node != p.Workers[i].Node || w.Size() != p.Workers[i].Size() {
			return fmt.Sprintf("has the worker %d that isn't the plan's", i)
		}
		long = max(long, len(w.Ins))
	}
	if c.Long() != long || c.In != len(p.Workers[0].Ins) || c.Out != len(p.Workers[0].Outs) {
		return fmt.Sprintf("is %d long, with %d and %d ports", c.Long(), c.In, c.Out)
	}
	return ""
}

// asks: what a row asks of others, sorted.
func asks(l []code.Ins) []string {
	var asked []string
	for _, in := range l {
		switch in.Kind {
		case code.Read:
			asked = append(asked, fmt.Sprint("read ", in.N))
		case code.Recv:
			asked = append(asked, fmt.Sprint("recv ", in.N))
		case code.Send:
			asked = append(asked, fmt.Sprint("send ", in.N))
		case code.Write:
			asked = append(asked, fmt.Sprint("write ", in.N))
		case code.Do, code.Keep:
		default:
			asked = append(asked, fmt.Sprint("unknown ", in))
		}
	}
	slices.Sort(asked)
	return asked
}

// asked: what a worker of a plan has to ask at each instant, sorted.
func asked(p *split.Plan, worker int) []string {
	var l []string
	for i, e := range p.Edges {
		if e.To == worker {
			l = append(l, fmt.Sprint("recv ", i))
		}
		if e.From == worker {
			l = append(l, fmt.Sprint("send ", i))
		}
	}
	if worker == 0 {
		for i := range p.Workers[0].Ins {
			l = append(l, fmt.Sprint("read ", i))
		}
		for i := range p.Workers[0].Outs {
			l = append(l, fmt.Sprint("write ", i))
		}
	}
	slices.Sort(l)
	return l
}

// others: nodes that are called, at once or by themselves.
const others = " node g(a: int) returns (b: int) let b = a + 1; tel" +
	" node g2(a: int, b: int) returns (c: int) let c = a - b; tel" +
	" node g3(a: int, b: bool, c: int) returns (d: int) let d = (0 -> pre a) + (if b then c else 7 fby c); tel" +
	" node k() returns (b: int) let b = 1 fby b + 1; tel" +
	" node t(a: bool, b: int) returns (c: bool) let c = a and b > 0; tel" +
	" node now(w: future int) returns (b: int) let b = await w; tel" +
	" node late(w: future int) returns (b: int) let b = await w after (5); tel" +
	" node deaf(w: future int, a: int) returns (b: int) let b = a; tel" +
	" node pass(w: future int, a: int) returns (b: int) var v: future int; let v = async late(w); b = a + await v after (-6); tel" +
	" node on(a: int) returns (b: int) var v: future int; let v = async g(a); b = await v after (3); tel" +
	" node two(v: future int, w: future int) returns (b: int, c: int) let b = await v after (1); c = await w after (2); tel" +
	" node ring(a: int, w: future int) returns (b: int) let b = a - await w after (0); tel" +
	" node flags(w: future bool) returns (b: bool) let b = await w after (true, false); tel" +
	" node same(a: int) returns (b: int) let b = 9 fby a; tel"

// withVars: a program whose first node declares these names, too, and has these equations.
func withVars(vars, eqs string) string {
	return "node f(x: int, c: bool) returns (y: int) " + strings.Repeat("var ", min(len(vars), 1)) + vars + " let " + eqs + " tel" + others
}
