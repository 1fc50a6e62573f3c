package split_test

import (
	"math/rand"
	"slices"
	"testing"

	"girandole/flat"
	"girandole/lex"
	"girandole/order"
	"girandole/solo"
	"girandole/split"
	"girandole/tree"
)

// joined: the same program without futures: a name has what comes of it, as each node is called at once; an
// await is that, behind its own values.
func joined(t *testing.T, text string) []tree.Node {
	t.Helper()
	l := programOf(t, text)
	for i := range l {
		n := &l[i]
		for _, decls := range [...][]tree.Decl{n.Ins, n.Outs, n.Vars} {
			for j := range decls {
				decls[j].Type.Future = false
			}
		}
		for j := range n.Eqs {
			n.Eqs[j].Async = false
			join(&n.Eqs[j].E)
		}
	}
	return l
}

func join(e *tree.Expr) {
	if e.Kind == tree.Await {
		ahead := e.Kids
		*e = tree.Expr{Kind: tree.Var, Name: e.Name}
		for _, k := range slices.Backward(ahead) {
			*e = tree.Expr{Kind: tree.Fby, Kids: []tree.Expr{k, *e}}
		}
	}
	for i := range e.Kids {
		join(&e.Kids[i])
	}
}

// sense: what a program says of rows, by the layers for what has no futures; false: it is too great for them, or
// hangs on itself when it is joined.
func sense(t *testing.T, text string, rows [][]int64) ([][]int64, bool) {
	t.Helper()
	l := joined(t, text)
	u, f := flat.Flatten(l, l[0].Name)
	if f != (lex.Fault{}) {
		return nil, false
	}
	o, f := order.Sort(u)
	if f != (lex.Fault{}) {
		return nil, false
	}
	s := solo.New(u, o)
	var said [][]int64
	for _, row := range rows {
		said = append(said, s.Step(row...))
	}
	return said, true
}

// saysSame holds what a plan's workers say, if none waits for ever, against what the program says.
func saysSame(t *testing.T, r *rand.Rand, text string, p *split.Plan, rows [][]int64) bool {
	t.Helper()
	got, ok := gangOf(p, rows).run(r)
	if !ok {
		return false
	}
	want, ok := sense(t, text, rows)
	if ok && !slices.EqualFunc(got, want, slices.Equal) {
		t.Fatalf("of %v the workers of %q say %v, want %v", rows, text, got, want)
	}
	return ok
}

// TestSays: workers, and edges between, by which what is written is what the program says.
func TestSays(t *testing.T) {
	r := rand.New(rand.NewSource(1))
	said := 0
	for _, x := range plans {
		rows := [][]int64{{3, 1}, {5, 0}, {-7, 1}, {11, 1}, {13, 0}, {-17, 0}, {19, 1}, {23, 0}, {2, 1}, {0, 0}}
		text := withVars(x.vars, x.eqs)
		if saysSame(t, r, text, planOf(t, text), rows) {
			said++
		}
	}
	if said < len(plans)*3/4 {
		t.Errorf("of %d plans only %d say something", len(plans), said)
	}
}

// TestSaysJust: some programs, and what they say, worked out by hand.
func TestSaysJust(t *testing.T) {
	for _, x := range []struct {
		vars, eqs string
		want      []int64
	}{
		{"u: future int;", "u = async g(x); y = await u after (0);", []int64{0, 11, 21, 31, 41}},
		{"u: future int;", "u = async g2(x, 1 fby x); y = await u after (7, 8);", []int64{7, 8, 9, 10, 10}},
		{"u: future int; v: future int;", "v = async g2(1, x); u = async g2(x, 1); y = await u after (0) - await v after (0);", []int64{0, 18, 38, 58, 78}},
		{"u: future int; v: future int; z: int;", "u = async k(); v = async g(x); (y, z) = two(v, u);", []int64{1, 11, 21, 31, 41}},
		{"u: future int; v: future int; z: int;", "u = async k(); v = async g(x); (z, y) = two(v, u);", []int64{2, 1, 2, 3, 4}},
		{"u: future int;", "u = async k(); y = deep(u, x);", []int64{4 - 6, 5 + 1, 2 + 1, 3 + 2, 4 + 3}},
		{"u: future int;", "u = async ring(x, u); y = await u after (0);", []int64{0, 10, 10, 20, 20}},
		{"u: future int; v: future int;", "u = async ring(1, v); v = async ring(x, u); y = await u after (5);", []int64{5, 1, 1 - 10, 1 - 19, 1 - 39}},
		{"", "y = on(on(x));", []int64{3, 4, 12, 22, 32}},
		{"u: future int; m: int when c;", "u = async k(); m = (await u after (9)) when c; y = merge c (m) (0);", []int64{9, 0, 2, 0, 4}},
	} {
		p := planOf(t, withVars(x.vars, x.eqs))
		got, ok := gangOf(p, [][]int64{{10, 1}, {20, 0}, {30, 1}, {40, 0}, {50, 1}}).run(rand.New(rand.NewSource(1)))
		var y []int64
		for _, outs := range got {
			y = append(y, outs[0])
		}
		if !ok || !slices.Equal(y, x.want) {
			t.Errorf("the workers of %q say %v, %v, want %v", x.eqs, y, ok, x.want)
		}
	}
}
