package parse_test

import (
	"math"
	"math/rand"
	"reflect"
	"strings"
	"testing"

	"girandole/api"
	"girandole/parse"
	"girandole/tree"
)

// readBack: an expression's text is read as it, but for places.
func readBack(t *testing.T, e tree.Expr) {
	t.Helper()
	text := tree.Text(e)
	if got := exprOf(t, text); !reflect.DeepEqual(placeless(got), placeless(e)) {
		t.Errorf("%s, by its text %q, is read as %s", told(e), text, told(got))
	}
}

func of(kind int, name string, kids ...tree.Expr) tree.Expr {
	return tree.Expr{Kind: kind, Name: name, Kids: kids}
}

// leaves: those without kids that aren't literals, and with ones that are.
func leaves() []tree.Expr {
	l := []tree.Expr{
		of(tree.Var, "x"), of(tree.Var, strings.Repeat("_", 30)), of(tree.Var, "when9"), of(tree.Call, "f"), of(tree.Await, "u"),
		of(tree.Await, "u", tree.Expr{Kind: tree.Int, N: math.MinInt64}, tree.Expr{Kind: tree.Bool, N: 1}),
	}
	return append(l, literals()...)
}

func literals() []tree.Expr {
	var l []tree.Expr
	for _, n := range []int64{0, 1, -1, math.MaxInt64, math.MinInt64} {
		l = append(l, tree.Expr{Kind: tree.Int, N: n})
	}
	return append(l, tree.Expr{Kind: tree.Bool}, tree.Expr{Kind: tree.Bool, N: 1})
}

// around: each place that a kid may have in an expression, with leaves in the others.
func around(k tree.Expr) []tree.Expr {
	a := of(tree.Var, "a")
	l := []tree.Expr{
		of(tree.Neg, "", k), of(tree.Not, "", k), of(tree.Pre, "", k), of(tree.When, "c", k), {Kind: tree.When, Name: "c", Off: true, Kids: []tree.Expr{k}},
		of(tree.If, "", k, a, a), of(tree.If, "", a, k, a), of(tree.If, "", a, a, k), of(tree.Arrow, "", k, a), of(tree.Arrow, "", a, k),
		of(tree.Merge, "c", k, a), of(tree.Merge, "c", a, k), of(tree.Call, "g", k), of(tree.Call, "g", a, k, a),
	}
	for _, sign := range strings.Fields("or xor and = < + - * mod") {
		l = append(l, of(tree.Binary, sign, k, a), of(tree.Binary, sign, a, k))
	}
	for _, n := range []int64{5, -5} {
		l = append(l, of(tree.Fby, "", tree.Expr{Kind: tree.Int, N: n}, k))
	}
	if tree.Const(k) {
		l = append(l, of(tree.Fby, "", k, a))
	}
	return l
}

func TestExpressionsOfFewLevelsAreReadBack(t *testing.T) {
	for _, leaf := range leaves() {
		readBack(t, leaf)
		for _, one := range around(leaf) {
			readBack(t, one)
			for _, two := range around(one) {
				readBack(t, two)
			}
		}
	}
	for _, one := range around(of(tree.Var, "x")) {
		for _, two := range around(one) {
			for _, three := range around(two) {
				readBack(t, three)
			}
		}
	}
}

func TestFortyLevelsAreReadBack(t *testing.T) {
	ways := len(around(of(tree.Var, "x")))
	for i := range ways {
		e := of(tree.Var, "x")
		for range api.MaxDeep - 1 {
			e = around(e)[i]
		}
		readBack(t, e)
		over := around(e)[i]
		if got, f := parse.Expr(tree.Text(over)); f.Err != api.ErrBig || got.Kind != 0 {
			t.Errorf("Expr(%q) of 41 levels: %+v", tree.Text(over), f)
		}
	}
}

// byChance: an expression of so many levels at most.
func byChance(chance *rand.Rand, levels int) tree.Expr {
	if levels == 1 || chance.Intn(6) == 0 {
		l := leaves()[:5]
		if levels > 1 || chance.Intn(2) == 0 {
			l = literals()
		}
		return l[chance.Intn(len(l))]
	}
	kid := func() tree.Expr { return byChance(chance, levels-1) }
	ways := []func() tree.Expr{
		func() tree.Expr { return of(tree.Neg, "", kid()) },
		func() tree.Expr { return of(tree.Not, "", kid()) },
		func() tree.Expr { return of(tree.Pre, "", kid()) },
		func() tree.Expr {
			return tree.Expr{Kind: tree.When, Name: "c", Off: chance.Intn(2) == 0, Kids: []tree.Expr{kid()}}
		},
		func() tree.Expr { return of(tree.If, "", kid(), kid(), kid()) },
		func() tree.Expr { return of(tree.Arrow, "", kid(), kid()) },
		func() tree.Expr { return of(tree.Fby, "", literals()[chance.Intn(7)], kid()) },
		func() tree.Expr { return of(tree.Merge, "c", kid(), kid()) },
		func() tree.Expr { return of(tree.Call, "f", kid(), kid()) },
		func() tree.Expr {
			signs := strings.Fields("or xor and = <> < <= > >= + - * / mod")
			return of(tree.Binary, signs[chance.Intn(len(signs))], kid(), kid())
		},
	}
	return ways[chance.Intn(len(ways))]()
}

// shortByChance: one whose text leaves room for a node around it.
func shortByChance(chance *rand.Rand) tree.Expr {
	for {
		if e := byChance(chance, 1+chance.Intn(9)); len(tree.Text(e)) < 500 {
			return e
		}
	}
}

func TestExpressionsByChanceAreReadBack(t *testing.T) {
	chance := rand.New(rand.NewSource(5))
	for range 20000 {
		readBack(t, shortByChance(chance))
	}
}

// nodeByChance: one with something in each of its lists, or nothing.
func nodeByChance(chance *rand.Rand) tree.Node {
	decls := func(clocked bool) []tree.Decl {
		var l []tree.Decl
		for range chance.Intn(4) {
			d := tree.Decl{Name: "d", Type: tree.Type{Bool: chance.Intn(2) == 0, Future: chance.Intn(3) == 0}}
			if clocked && chance.Intn(2) == 0 {
				d.Clock, d.Off = "c", chance.Intn(2) == 0
			}
			l = append(l, d)
		}
		return l
	}
	n := tree.Node{Name: "n", Ins: decls(false), Outs: decls(false), Vars: decls(true)}
	for range chance.Intn(4) {
		q := tree.Eq{Left: []tree.Left{{Name: "y"}}, E: shortByChance(chance)}
		for range chance.Intn(3) {
			q.Left = append(q.Left, tree.Left{Name: "z"})
		}
		if q.E.Kind == tree.Call {
			q.Async = chance.Intn(2) == 0
		}
		n.Eqs = append(n.Eqs, q)
	}
	return n
}

func TestProgramsByChanceAreReadBack(t *testing.T) {
	chance := rand.New(rand.NewSource(7))
	many := 0
	for range 2000 {
		l := []tree.Node{nodeByChance(chance)}
		for chance.Intn(3) == 0 {
			l = append(l, nodeByChance(chance))
		}
		text := tree.Print(l...)
		if len(text) > api.MaxText {
			continue
		}
		many++
		got := nodesOf(t, text)
		if again := tree.Print(got...); again != text {
			t.Fatalf("Print of %q, read, is %q", text, again)
		}
		for i, n := range got {
			if !sameNode(n, l[i]) {
				t.Fatalf("%q is read as %+v, want %+v", text, n, l[i])
			}
		}
	}
	if many < 1500 {
		t.Errorf("only %d programs were short enough", many)
	}
}

// sameNode: but for places.
func sameNode(n, m tree.Node) bool {
	return reflect.DeepEqual(placelessNode(n), placelessNode(m))
}

func placelessNode(n tree.Node) tree.Node {
	decls := func(l []tree.Decl) (out []tree.Decl) {
		for _, d := range l {
			d.At = 0
			out = append(out, d)
		}
		return out
	}
	m := tree.Node{Name: n.Name, Ins: decls(n.Ins), Outs: decls(n.Outs), Vars: decls(n.Vars)}
	for _, q := range n.Eqs {
		p := tree.Eq{Async: q.Async, E: placeless(q.E)}
		for _, x := range q.Left {
			p.Left = append(p.Left, tree.Left{Name: x.Name})
		}
		m.Eqs = append(m.Eqs, p)
	}
	return m
}

func TestWhatIsReadAgainIsPrintedAlike(t *testing.T) {
	texts := []string{whole, "node g() returns () let tel"}
	for _, e := range []string{"((-5))when c+(- -(5))", "(((a)))->((-0)fby c)", "-0 when c", "if a then(if b then c else d)else(e)", "await u after(-0,true)"} {
		texts = append(texts, inNode(e+"; tel"))
	}
	for _, text := range texts {
		once := tree.Print(nodesOf(t, text)...)
		if twice := tree.Print(nodesOf(t, once)...); twice != once {
			t.Errorf("Print of %q, read, is %q", once, twice)
		}
	}
}
