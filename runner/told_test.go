package runner_test

import (
	"slices"
	"testing"
	"time"

	"girandole/code"
	"girandole/compile"
	"girandole/lex"
	"girandole/runner"
)

// lowered: the code of a text.
func lowered(t *testing.T, text string) *code.Program {
	t.Helper()
	_, p, f := compile.Compile(text)
	if f != (lex.Fault{}) {
		t.Fatalf("%q: %+v; want no fault", text, f)
	}
	return p
}

// run: what workers write, if they come to an end.
func run(t *testing.T, p *code.Program, rows [][]int64) [][]int64 {
	t.Helper()
	said := make(chan [][]int64, 1)
	go func() { said <- runner.Run(p, rows...) }()
	select {
	case l := <-said:
		return l
	case <-time.After(time.Minute):
		t.Fatalf("behind a minute %d workers haven't come to their end", p.Len())
		return nil
	}
}

// tells: of rows a text says that, port by port.
func tells(t *testing.T, text string, rows, want [][]int64) {
	t.Helper()
	if got := run(t, lowered(t, text), rows); !slices.EqualFunc(got, want, slices.Equal) {
		t.Errorf("of %v %q says %v, want %v", rows, text, got, want)
	}
}

// library: nodes that are called, at once or by themselves.
const library = `
node sum(a: int) returns (b: int) let b = a + (0 -> pre b); tel
node more(a: int) returns (b: int) let b = a + 1; tel
node less(a: int, b: int) returns (c: int) let c = a - b; tel
node count() returns (b: int) let b = 1 fby b + 1; tel
node over(a: int, b: int) returns (c: bool) let c = a > b; tel
node late(w: future int) returns (b: int) let b = await w after (5) * 2; tel
node now(w: future int) returns (b: int) let b = await w; tel
node deaf(w: future int, a: int) returns (b: int) let b = 4 -> pre a; tel
node ring(a: int, w: future int) returns (b: int) let b = a - await w after (0, 3); tel
node on(a: int) returns (b: int) var v: future int; let v = async more(a); b = await v after (3); tel
node flags(w: future bool) returns (b: bool) let b = await w after (true, false); tel
`

// withVars: a program whose first node declares these names, too, and has these equations.
func withVars(vars, eqs string) string {
	if vars != "" {
		vars = "var " + vars
	}
	return "node f(x: int, c: bool) returns (y: int) " + vars + " let " + eqs + " tel" + library
}

// tens: so many rows for such a program: at the instant i 10 i + 10, and whether i is even.
func tens(n int) [][]int64 {
	var l [][]int64
	for i := range int64(n) {
		l = append(l, []int64{10*i + 10, 1 - i&1})
	}
	return l
}

// behind: what a future gave so many instants ago, behind some values.
func behind(ahead []int64, f func(i int) int64) func(i int) int64 {
	return func(i int) int64 {
		if i < len(ahead) {
			return ahead[i]
		}
		return f(i - len(ahead))
	}
}

// rowOf: what there is at each of so many instants.
func rowOf(n int, f func(i int) int64) []int64 {
	var l []int64
	for i := range n {
		l = append(l, f(i))
	}
	return l
}
