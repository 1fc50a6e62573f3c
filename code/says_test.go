package code_test

import (
	"math/rand"
	"slices"
	"testing"

	"girandole/flat"
	"girandole/lex"
	"girandole/order"
	"girandole/parse"
	"girandole/solo"
	"girandole/tree"
)

// joined: the same program without futures: a name has what comes of it, as each node is called at once; an
// await is that, behind its own values.
func joined(t *testing.T, text string) []tree.Node {
	t.Helper()
	l, f := parse.Program(text)
	if f != (lex.Fault{}) {
		t.Fatalf("Program(%q): %+v", text, f)
	}
	for i := range l {
		for _, decls := range [...][]tree.Decl{l[i].Ins, l[i].Outs, l[i].Vars} {
			for j := range decls {
				decls[j].Type.Future = false
			}
		}
		for j := range l[i].Eqs {
			l[i].Eqs[j].Async = false
			join(&l[i].Eqs[j].E)
		}
	}
	return l
}

func join(e *tree.Expr) {
	if e.Kind == tree.Await {
		ahead := e.Kids
		*e = tree.Expr{Kind: tree.Var, Name: e.Name}
		for _, k := range slices.Backward(ahead) {
			*e = tree.Expr{Kind: tree.Fby, Kids: []tree.Expr{k, *e}}
		}
	}
	for i := range e.Kids {
		join(&e.Kids[i])
	}
}

// sense: what a program says of rows, port by port, by the layers for what has no futures.
func sense(t *testing.T, text string, rows [][]int64) [][]int64 {
	t.Helper()
	l := joined(t, text)
	u, f := flat.Flatten(l, l[0].Name)
	if f != (lex.Fault{}) {
		t.Fatalf("Flatten of %q, joined: %+v", text, f)
	}
	o, f := order.Sort(u)
	if f != (lex.Fault{}) {
		t.Fatalf("Sort of %q, joined: %+v", text, f)
	}
	s := solo.New(u, o)
	said := make([][]int64, len(l[0].Outs))
	for _, row := range rows {
		for port, v := range s.Step(row...) {
			said[port] = append(said[port], v)
		}
	}
	return said
}

// says holds what a program's code says, whoever is picked, against what is wanted.
func says(t *testing.T, r *rand.Rand, text string, rows, want [][]int64) {
	t.Helper()
	c := lowered(t, text)
	for i, choose := range choices(r) {
		p := troupeOf(c, rows)
		if why := p.run(choose); why != "" {
			t.Fatalf("picked by way %d the code of %q %s", i, text, why)
		}
		if !slices.EqualFunc(p.said, want, slices.Equal) {
			t.Fatalf("of %v the code of %q says, picked by way %d, %v, want %v", rows, text, i, p.said, want)
		}
	}
}

// TestSays: what is written is what the program says, whoever is picked; nobody waits for ever.
func TestSays(t *testing.T) {
	r := rand.New(rand.NewSource(1))
	for _, x := range sound {
		rows := [][]int64{{3, 1}, {5, 0}, {-7, 1}, {11, 1}, {13, 0}, {-17, 0}, {19, 1}, {23, 0}, {2, 1}, {0, 0}, {29, 1}, {31, 0}}
		text := withVars(x.vars, x.eqs)
		says(t, r, text, rows, sense(t, text, rows))
		says(t, r, text, nil, [][]int64{nil})
	}
}

// TestSaysJust: some programs, and what they say, worked out by hand.
func TestSaysJust(t *testing.T) {
	rows := [][]int64{{10, 1}, {20, 0}, {30, 1}, {40, 0}, {50, 1}}
	for _, x := range []struct {
		vars, eqs string
		want      []int64
	}{
		{"", "y = x + 1;", []int64{11, 21, 31, 41, 51}},
		{"", "y = 0 -> pre y + x;", []int64{0, 20, 50, 90, 140}},
		{"u: future int;", "u = async g(x); y = await u after (0);", []int64{0, 11, 21, 31, 41}},
		{"u: future int;", "u = async g2(x, 1 fby x); y = await u after (7, 8);", []int64{7, 8, 9, 10, 10}},
		{"u: future int; v: future int;", "v = async g2(1, x); u = async g2(x, 1); y = await u after (0) - await v after (0);", []int64{0, 18, 38, 58, 78}},
		{"u: future int; v: future int; z: int;", "u = async k(); v = async g(x); (y, z) = two(v, u);", []int64{1, 11, 21, 31, 41}},
		{"u: future int; v: future int; z: int;", "u = async k(); v = async g(x); (z, y) = two(v, u);", []int64{2, 1, 2, 3, 4}},
		{"u: future int;", "u = async ring(x, u); y = await u after (0);", []int64{0, 10, 10, 20, 20}},
		{"u: future int; v: future int;", "u = async ring(1, v); v = async ring(x, u); y = await u after (5);", []int64{5, 1, 1 - 10, 1 - 19, 1 - 39}},
		{"", "y = on(on(x));", []int64{3, 4, 12, 22, 32}},
		{"u: future int; m: int when c;", "u = async k(); m = (await u after (9)) when c; y = merge c (m) (0);", []int64{9, 0, 2, 0, 4}},
		// what is kept goes over an edge, or out, as it was at this instant
		{"u: future int;", "u = async g(5 fby x); y = await u after (0);", []int64{0, 6, 11, 21, 31}},
		{"u: future int;", "u = async same(x); y = await u after (0);", []int64{0, 9, 10, 20, 30}},
		{"", "y = 5 fby x;", []int64{5, 10, 20, 30, 40}},
	} {
		says(t, rand.New(rand.NewSource(1)), withVars(x.vars, x.eqs), rows, [][]int64{x.want})
	}
}

// TestPortsInOrder: each port by its number, in and out, at edges, too.
func TestPortsInOrder(t *testing.T) {
	text := "node f(a: int, b: int, c: bool) returns (x: int, y: int, z: bool) var u: future int; v: future bool;" +
		" let x = b; y = await u after (0); z = await v after (false, true); u = async h(b, c, a); v = async e(a, b); tel" +
		" node h(a: int, b: bool, c: int) returns (d: int) let d = if b then a * 100 + c else c; tel" +
		" node e(a: int, b: int) returns (c: bool) let c = a < b; tel"
	says(t, rand.New(rand.NewSource(1)), text, [][]int64{{1, 2, 1}, {4, 3, 0}, {5, 6, 1}, {7, 8, 0}},
		[][]int64{{2, 3, 6, 8}, {0, 201, 4, 605}, {0, 1, 1, 0}})
}
