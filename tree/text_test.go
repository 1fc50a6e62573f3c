package tree_test

import (
	"math"
	"strings"
	"testing"

	"girandole/tree"
)

var (
	a, b, c = variable("a"), variable("b"), variable("c")
	two     = number(2)
)

// textIs holds an expression's text, told twice, against what it must be.
func textIs(t *testing.T, e tree.Expr, want string) {
	t.Helper()
	for range 2 {
		if got := tree.Text(e); got != want {
			t.Errorf("Text = %q, want %q", got, want)
		}
	}
}

func TestTextOfEachKind(t *testing.T) {
	off := expr(tree.When, "c", a)
	off.Off = true
	for want, e := range map[string]tree.Expr{
		"0": number(0), "7": number(7), "-7": number(-7), "100": number(100),
		"9223372036854775807": number(math.MaxInt64), "-9223372036854775808": number(math.MinInt64),
		"true": truth(1), "false": truth(0),
		"a":                        a,
		"-a":                       expr(tree.Neg, "", a),
		"not a":                    expr(tree.Not, "", a),
		"if a then b else c":       expr(tree.If, "", a, b, c),
		"a -> b":                   expr(tree.Arrow, "", a, b),
		"2 fby b":                  expr(tree.Fby, "", two, b),
		"-2 fby b":                 expr(tree.Fby, "", number(-2), b),
		"false fby b":              expr(tree.Fby, "", truth(0), b),
		"pre a":                    expr(tree.Pre, "", a),
		"a when c":                 expr(tree.When, "c", a),
		"a when not c":             off,
		"merge c (a) (b)":          expr(tree.Merge, "c", a, b),
		"f()":                      expr(tree.Call, "f"),
		"f(a)":                     expr(tree.Call, "f", a),
		"f(a, b, 2)":               expr(tree.Call, "f", a, b, two),
		"await a":                  expr(tree.Await, "a"),
		"await a after (2)":        expr(tree.Await, "a", two),
		"await a after (-2, true)": expr(tree.Await, "a", number(-2), truth(1)),
	} {
		textIs(t, e, want)
	}
	for _, sign := range strings.Fields("or xor and = <> < <= > >= + - * / mod") {
		textIs(t, expr(tree.Binary, sign, a, b), "a "+sign+" b")
	}
}

// An inner expression, its text, and how closely it binds.
type inner struct {
	e     tree.Expr
	text  string
	binds int
}

func inners() []inner {
	l := []inner{
		{number(5), "5", 10}, {number(0), "0", 10}, {number(-1), "-1", 8}, {number(-5), "-5", 8}, {truth(1), "true", 10}, {a, "a", 10},
		{expr(tree.Neg, "", a), "-a", 8}, {expr(tree.Not, "", a), "not a", 4},
		{expr(tree.If, "", a, b, c), "if a then b else c", 0}, {expr(tree.Arrow, "", a, b), "a -> b", 1},
		{expr(tree.Fby, "", two, b), "2 fby b", 1}, {expr(tree.Pre, "", a), "pre a", 8},
		{expr(tree.When, "d", a), "a when d", 9}, {expr(tree.Merge, "d", a, b), "merge d (a) (b)", 10},
		{expr(tree.Call, "g", a), "g(a)", 10}, {expr(tree.Await, "u"), "await u", 10},
		{expr(tree.Await, "u", two), "await u after (2)", 10},
	}
	for sign, binds := range map[string]int{"or": 2, "xor": 2, "and": 3, "=": 5, "<>": 5, "<": 5, "<=": 5, ">": 5, ">=": 5, "+": 6, "-": 6, "*": 7, "/": 7, "mod": 7} {
		l = append(l, inner{expr(tree.Binary, sign, a, b), "a " + sign + " b", binds})
	}
	return l
}

// A place for a kid: how closely that must bind, what stands ahead of it and behind.
type place struct {
	least         int
	ahead, behind string
	with          func(kid tree.Expr) tree.Expr
}

func places() []place {
	at := func(i, kind int, name string, kids ...tree.Expr) func(tree.Expr) tree.Expr {
		return func(kid tree.Expr) tree.Expr {
			l := append([]tree.Expr{}, kids...)
			l[i] = kid
			return expr(kind, name, l...)
		}
	}
	l := []place{
		{4, "not ", "", at(0, tree.Not, "", a)},
		{0, "if ", " then y else z", at(0, tree.If, "", a, variable("y"), variable("z"))},
		{0, "if x then ", " else z", at(1, tree.If, "", variable("x"), a, variable("z"))},
		{0, "if x then y else ", "", at(2, tree.If, "", variable("x"), variable("y"), a)},
		{2, "", " -> y", at(0, tree.Arrow, "", a, variable("y"))},
		{1, "x -> ", "", at(1, tree.Arrow, "", variable("x"), a)},
		{1, "1 fby ", "", at(1, tree.Fby, "", number(1), a)},
		{8, "pre ", "", at(0, tree.Pre, "", a)},
		{9, "", " when e", at(0, tree.When, "e", a)},
		{0, "merge e (", ") (y)", at(0, tree.Merge, "e", a, variable("y"))},
		{0, "merge e (x) (", ")", at(1, tree.Merge, "e", variable("x"), a)},
		{0, "f(", ")", at(0, tree.Call, "f", a)},
		{0, "f(x, ", ", z)", at(1, tree.Call, "f", variable("x"), a, variable("z"))},
	}
	for sign, binds := range map[string][2]int{"or": {2, 3}, "xor": {2, 3}, "and": {3, 4}, "=": {6, 6}, "<>": {6, 6}, "<": {6, 6}, "<=": {6, 6}, ">": {6, 6}, ">=": {6, 6}, "+": {6, 7}, "-": {6, 7}, "*": {7, 8}, "/": {7, 8}, "mod": {7, 8}} {
		l = append(l, place{binds[0], "", " " + sign + " y", at(0, tree.Binary, sign, a, variable("y"))})
		l = append(l, place{binds[1], "x " + sign + " ", "", at(1, tree.Binary, sign, variable("x"), a)})
	}
	return l
}

func TestBracketsOfEachKindInEachPlace(t *testing.T) {
	for _, p := range places() {
		for _, k := range inners() {
			text := k.text
			if k.binds < p.least {
				text = "(" + text + ")"
			}
			textIs(t, p.with(k.e), p.ahead+text+p.behind)
		}
	}
}

func TestTextOfNeg(t *testing.T) {
	for _, k := range inners() {
		want := "-" + k.text
		if k.binds < 8 || k.e.Kind == tree.Int || strings.HasPrefix(k.text, "-") {
			want = "-(" + k.text + ")"
		}
		textIs(t, expr(tree.Neg, "", k.e), want)
	}
	textIs(t, expr(tree.Neg, "", number(math.MinInt64)), "-(-9223372036854775808)")
	textIs(t, expr(tree.Neg, "", expr(tree.Neg, "", expr(tree.Neg, "", number(0)))), "-(-(-(0)))")
	textIs(t, expr(tree.Neg, "", expr(tree.When, "c", number(5))), "-5 when c")
	textIs(t, expr(tree.Neg, "", expr(tree.When, "c", number(-5))), "-(-5) when c")
	textIs(t, expr(tree.Neg, "", expr(tree.Binary, "+", expr(tree.Neg, "", a), b)), "-(-a + b)")
	textIs(t, expr(tree.Neg, "", variable("-x")), "-(-x)")
}

func TestTextOfNested(t *testing.T) {
	binary := func(sign string, x, y tree.Expr) tree.Expr { return expr(tree.Binary, sign, x, y) }
	for want, e := range map[string]tree.Expr{
		"(x + 1) * -2":                        binary("*", binary("+", variable("x"), number(1)), number(-2)),
		"a - -2":                              binary("-", a, number(-2)),
		"-2 - a":                              binary("-", number(-2), a),
		"a or b xor c or a":                   binary("or", binary("xor", binary("or", a, b), c), a),
		"a or (b or c)":                       binary("or", a, binary("or", b, c)),
		"(a = b) = (b = c)":                   binary("=", binary("=", a, b), binary("=", b, c)),
		"a -> b -> c":                         expr(tree.Arrow, "", a, expr(tree.Arrow, "", b, c)),
		"(a -> b) -> c":                       expr(tree.Arrow, "", expr(tree.Arrow, "", a, b), c),
		"2 fby 2 fby a":                       expr(tree.Fby, "", two, expr(tree.Fby, "", two, a)),
		"(2 fby a) -> b":                      expr(tree.Arrow, "", expr(tree.Fby, "", two, a), b),
		"a -> (if a then b else c)":           expr(tree.Arrow, "", a, expr(tree.If, "", a, b, c)),
		"pre pre -a":                          expr(tree.Pre, "", expr(tree.Pre, "", expr(tree.Neg, "", a))),
		"(pre a) when c":                      expr(tree.When, "c", expr(tree.Pre, "", a)),
		"pre a when c":                        expr(tree.Pre, "", expr(tree.When, "c", a)),
		"a when c when d":                     expr(tree.When, "d", expr(tree.When, "c", a)),
		"not not a":                           expr(tree.Not, "", expr(tree.Not, "", a)),
		"not a = b":                           expr(tree.Not, "", binary("=", a, b)),
		"(not a) = b":                         binary("=", expr(tree.Not, "", a), b),
		"if a then b else if b then c else a": expr(tree.If, "", a, b, expr(tree.If, "", b, c, a)),
	} {
		textIs(t, e, want)
	}
}

func TestTextOfAThousandLevels(t *testing.T) {
	textIs(t, chain(1000, tree.Not), strings.Repeat("not ", 999)+"x")
	textIs(t, chain(1000, tree.Pre), strings.Repeat("pre ", 999)+"x")
	textIs(t, chain(1000, tree.Neg), strings.Repeat("-(", 998)+"-x"+strings.Repeat(")", 998))
}

func TestTypeText(t *testing.T) {
	for want, y := range map[string]tree.Type{
		"int": {}, "bool": {Bool: true}, "future int": {Future: true}, "future bool": {Bool: true, Future: true},
	} {
		if got := tree.TypeText(y); got != want {
			t.Errorf("TypeText(%+v) = %q, want %q", y, got, want)
		}
	}
}

func TestPrint(t *testing.T) {
	least := tree.Node{Name: "g"}
	more := tree.Node{
		Name: "f", At: 5,
		Ins:  []tree.Decl{{Name: "i"}, {Name: "u", Type: tree.Type{Future: true}}, {Name: "v", Type: tree.Type{Bool: true, Future: true}}},
		Outs: []tree.Decl{{Name: "y"}, {Name: "z", Type: tree.Type{Bool: true}}},
		Vars: []tree.Decl{{Name: "s"}, {Name: "w", Clock: "z"}, {Name: "k", Type: tree.Type{Bool: true}, Clock: "z", Off: true}},
		Eqs: []tree.Eq{
			{Left: []tree.Left{{Name: "y"}}, E: expr(tree.Arrow, "", two, a)},
			{Left: []tree.Left{{Name: "s"}, {Name: "w"}, {Name: "k"}}, E: expr(tree.Call, "h", a)},
			{Left: []tree.Left{{Name: "z"}}, Async: true, E: expr(tree.Call, "g")},
			{Left: []tree.Left{{Name: "s"}, {Name: "y"}}, E: a},
		},
	}
	leastText := "node g() returns ()\nlet\ntel\n"
	moreText := "node f(i: int, u: future int, v: future bool) returns (y: int, z: bool)\n" +
		"var s: int; w: int when z; k: bool when not z;\nlet\n" +
		"  y = 2 -> a;\n  (s, w, k) = h(a);\n  z = async g();\n  (s, y) = a;\ntel\n"
	one := tree.Node{Name: "k", Ins: []tree.Decl{{Name: "i", Off: true}}, Outs: []tree.Decl{{Name: "o", Type: tree.Type{Bool: true}}}, Vars: []tree.Decl{{Name: "w"}}}
	oneText := "node k(i: int) returns (o: bool)\nvar w: int;\nlet\ntel\n"
	for want, l := range map[string][]tree.Node{
		"":                                nil,
		leastText:                         {least},
		moreText:                          {more},
		oneText:                           {one},
		moreText + leastText + moreText:   {more, least, more},
		leastText + leastText + leastText: {least, least, least},
	} {
		if got := tree.Print(l...); got != want {
			t.Errorf("Print = %q, want %q", got, want)
		}
	}
	if got := tree.Print(tree.Node{Name: "e", Eqs: []tree.Eq{{E: a}}}); got != "node e() returns ()\nlet\n   = a;\ntel\n" {
		t.Errorf("Print of an equation that gives to no name = %q", got)
	}
}
