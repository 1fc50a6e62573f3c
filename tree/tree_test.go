package tree_test

import (
	"reflect"
	"slices"
	"strings"
	"testing"

	"girandole/tree"
)

func TestNumbersOfKinds(t *testing.T) {
	got := []int{tree.Int, tree.Bool, tree.Var, tree.Neg, tree.Not, tree.Binary, tree.If, tree.Arrow, tree.Fby, tree.Pre, tree.When, tree.Merge, tree.Call, tree.Await}
	if want := []int{1, 2, 3, 4, 5, 6, 7, 8, 9, 10, 11, 12, 13, 14}; !slices.Equal(got, want) {
		t.Errorf("the kinds are %v, want %v", got, want)
	}
}

func TestDeep(t *testing.T) {
	left := expr(tree.Binary, "+", chain(4, tree.Neg), a)
	for want, l := range map[int][]tree.Expr{
		1:    {a, number(1), truth(0), expr(tree.Call, "f"), expr(tree.Await, "u"), {}},
		2:    {expr(tree.Neg, "", a), expr(tree.Call, "f", a, b, c), expr(tree.Await, "u", two)},
		5:    {left, expr(tree.Binary, "+", a, chain(4, tree.Not)), expr(tree.If, "", a, chain(4, tree.Pre), b)},
		1000: {chain(1000, tree.Pre)},
	} {
		for _, e := range l {
			if got := tree.Deep(e); got != want {
				t.Errorf("Deep(%s) = %d, want %d", tree.Text(e), got, want)
			}
		}
	}
}

// seen: the texts of what Each shows, in their order.
func seen(e tree.Expr) []string {
	var l []string
	tree.Each(e, func(e tree.Expr) { l = append(l, tree.Text(e)) })
	return l
}

func TestEachShowsWhatIsAboveFirst(t *testing.T) {
	e := expr(tree.If, "", expr(tree.Not, "", a), expr(tree.Call, "f", expr(tree.Neg, "", b), two), expr(tree.Await, "u", two, number(-3)))
	want := []string{tree.Text(e), "not a", "a", "f(-b, 2)", "-b", "b", "2", "await u after (2, -3)", "2", "-3"}
	if got := seen(e); !slices.Equal(got, want) {
		t.Errorf("Each shows %q, want %q", got, want)
	}
	if got := seen(a); !slices.Equal(got, []string{"a"}) {
		t.Errorf("Each of a name shows %q", got)
	}
	n := 0
	tree.Each(chain(1000, tree.Pre), func(e tree.Expr) { n++ })
	if n != 1000 {
		t.Errorf("Each of 1000 levels shows %d", n)
	}
}

func TestEachShowsExpressionsWhole(t *testing.T) {
	k := tree.Expr{Kind: tree.When, At: 3, Name: "c", Off: true, Kids: []tree.Expr{{Kind: tree.Int, At: 1, N: -4}}}
	e := tree.Expr{Kind: tree.Pre, At: 9, Kids: []tree.Expr{k}}
	var l []tree.Expr
	tree.Each(e, func(e tree.Expr) { l = append(l, e) })
	want := []tree.Expr{e, k, k.Kids[0]}
	if len(l) != len(want) {
		t.Fatalf("Each shows %d expressions, want %d", len(l), len(want))
	}
	for i := range want {
		if !reflect.DeepEqual(l[i], want[i]) {
			t.Errorf("Each shows %+v, want %+v", l[i], want[i])
		}
	}
}

func TestEachLeavesAllAsItIs(t *testing.T) {
	e := expr(tree.Pre, "", expr(tree.Binary, "+", a, b))
	before := seen(e)
	tree.Each(e, nil)
	n := 0
	tree.Each(e, func(e tree.Expr) {
		n++
		for i := range e.Kids {
			e.Kids[i] = number(0)
		}
	})
	if after := seen(e); n != 4 || !slices.Equal(before, after) {
		t.Errorf("%d were shown; behind it Each shows %q, not %q", n, after, before)
	}
}

func TestConst(t *testing.T) {
	for kind := range 16 {
		if got, want := tree.Const(tree.Expr{Kind: kind}), kind == tree.Int || kind == tree.Bool; got != want {
			t.Errorf("Const of kind %d = %v", kind, got)
		}
	}
}

// full: a node with something in each of its lists.
func full(name string, at int) tree.Node {
	return tree.Node{
		Name: name, At: at,
		Ins:  []tree.Decl{{Name: "i", At: 1}, {Name: "same", At: 2}},
		Outs: []tree.Decl{{Name: "o", At: 3}, {Name: "same", At: 4}},
		Vars: []tree.Decl{{Name: "v", At: 5, Type: tree.Type{Bool: true, Future: true}, Clock: "i", Off: true}, {Name: "same", At: 6}, {Name: "o", At: 7}},
		Eqs: []tree.Eq{
			{Left: []tree.Left{{Name: "o", At: 8}}, E: expr(tree.Pre, "", expr(tree.Neg, "", a))},
			{Left: []tree.Left{{Name: "v", At: 9}, {Name: "same", At: 10}}, Async: true, E: expr(tree.Call, "g", a, b)},
		},
	}
}

func TestFind(t *testing.T) {
	l := []tree.Node{full("f", 1), full("g", 2), full("f", 3), {}}
	for name, want := range map[string]tree.Node{"f": full("f", 1), "g": full("g", 2), "": {}} {
		if n, ok := tree.Find(l, name); !ok || !reflect.DeepEqual(n, want) {
			t.Errorf("Find(%q) = %+v, %v", name, n, ok)
		}
	}
	for _, name := range []string{"h", "F", "ff", "i", "o"} {
		if n, ok := tree.Find(l, name); ok || !reflect.DeepEqual(n, tree.Node{}) {
			t.Errorf("Find(%q) = %+v, %v; want none", name, n, ok)
		}
	}
	if n, ok := tree.Find(nil, ""); ok || !reflect.DeepEqual(n, tree.Node{}) {
		t.Errorf("Find in no nodes = %+v, %v", n, ok)
	}
}

// scribble writes into all that a node has.
func scribble(n tree.Node) {
	for _, l := range [][]tree.Decl{n.Ins, n.Outs, n.Vars} {
		for i := range l {
			l[i].Name = "scribbled"
		}
	}
	for i := range n.Eqs {
		for j := range n.Eqs[i].Left {
			n.Eqs[i].Left[j].Name = "scribbled"
		}
		scribbleExpr(n.Eqs[i].E)
		n.Eqs[i].Async = !n.Eqs[i].Async
	}
}

func scribbleExpr(e tree.Expr) {
	for i := range e.Kids {
		scribbleExpr(e.Kids[i])
		e.Kids[i] = number(99)
	}
}

func TestFindAnswersNewMemory(t *testing.T) {
	l := []tree.Node{full("e", 0), full("f", 1)}
	n, _ := tree.Find(l, "f")
	m, _ := tree.Find(l, "f")
	scribble(n)
	if !reflect.DeepEqual(l, []tree.Node{full("e", 0), full("f", 1)}) || !reflect.DeepEqual(m, full("f", 1)) {
		t.Error("what is written into Find's answer shows in what it was handed, or in another answer")
	}
	scribble(l[1])
	if !reflect.DeepEqual(m, full("f", 1)) {
		t.Error("what is written into the nodes shows in Find's answer")
	}
}

// withPlaces: the names of declarations, each with its place.
func withPlaces(l []tree.Decl) string {
	var b strings.Builder
	for _, d := range l {
		b.WriteString(d.Name + string(rune('0'+d.At)) + " ")
	}
	return b.String()
}

func TestAll(t *testing.T) {
	n := full("f", 0)
	if got, want := withPlaces(tree.All(n)), "i1 same2 o3 same4 v5 same6 o7 "; got != want {
		t.Errorf("All = %s, want %s", got, want)
	}
	if d := tree.All(n)[4]; d != n.Vars[0] {
		t.Errorf("All has %+v, want %+v", d, n.Vars[0])
	}
	for _, n := range []tree.Node{{}, {Ins: []tree.Decl{}, Outs: []tree.Decl{}, Vars: []tree.Decl{}}} {
		if l := tree.All(n); len(l) != 0 {
			t.Errorf("All of a node without names = %v", l)
		}
	}
	for _, n := range []tree.Node{{Ins: n.Ins}, {Outs: n.Ins}, {Vars: n.Ins}} {
		if got := withPlaces(tree.All(n)); got != "i1 same2 " {
			t.Errorf("All of one list alone = %s", got)
		}
	}
}

func TestAllAnswersNewMemory(t *testing.T) {
	room := append(make([]tree.Decl, 0, 9), tree.Decl{Name: "i"})
	alone := tree.Node{Ins: room}
	both := tree.Node{Ins: room, Outs: []tree.Decl{{Name: "o"}}}
	for _, n := range []tree.Node{alone, both, {Vars: room}} {
		l := tree.All(n)
		l[0].Name = "scribbled"
		_ = append(l, tree.Decl{Name: "scribbled"})
		if behind := room[:2][1]; room[0].Name != "i" || behind != (tree.Decl{}) {
			t.Errorf("All's answer shares memory with the node: %+v, %+v", room[0], behind)
		}
	}
}

func TestNamed(t *testing.T) {
	n := full("f", 0)
	for name, want := range map[string]tree.Decl{"i": n.Ins[0], "same": n.Ins[1], "o": n.Outs[0], "v": n.Vars[0]} {
		if d, ok := tree.Named(n, name); !ok || d != want {
			t.Errorf("Named(%q) = %+v, %v; want %+v", name, d, ok, want)
		}
	}
	for _, name := range []string{"", "f", "a", "I", "sam"} {
		if d, ok := tree.Named(n, name); ok || d != (tree.Decl{}) {
			t.Errorf("Named(%q) = %+v, %v; want none", name, d, ok)
		}
	}
	if d, ok := tree.Named(tree.Node{}, ""); ok || d != (tree.Decl{}) {
		t.Errorf("Named in a node without names = %+v, %v", d, ok)
	}
}

func TestCallsLeaveWhatTheyAreHanded(t *testing.T) {
	l := []tree.Node{full("f", 0), full("g", 0)}
	for range 2 {
		tree.Print(l...)
		tree.Find(l, "g")
		tree.All(l[0])
		tree.Named(l[0], "o")
		tree.Deep(l[0].Eqs[0].E)
		tree.Text(l[0].Eqs[1].E)
	}
	if !reflect.DeepEqual(l, []tree.Node{full("f", 0), full("g", 0)}) {
		t.Errorf("the nodes have changed: %+v", l)
	}
}
