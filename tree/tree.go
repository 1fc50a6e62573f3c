// Package tree is layer 2: see shared/doc/02-tree.md.
package tree

import "slices"

// The kinds of expressions.
const (
	Int    = iota + 1 // N
	Bool              // N: 1 or 0
	Var               // Name
	Neg               // one kid
	Not               // one kid
	Binary            // Name: the sign; two kids
	If                // three kids
	Arrow             // two kids
	Fby               // two kids, the first of which is Int or Bool
	Pre               // one kid
	When              // one kid; Name, Off
	Merge             // Name; two kids
	Call              // Name; kids
	Await             // Name; kids, each Int or Bool
)

// Expr is an expression: where it begins, and what its kind has.
type Expr struct {
	Kind, At int
	N        int64
	Name     string
	Off      bool
	Kids     []Expr
}

// Type is an int's, or a bool's, or that of a future.
type Type struct{ Bool, Future bool }

// Decl is a name, its type, its clock: by which name (empty: the node's own), if that is off.
type Decl struct {
	Name  string
	At    int
	Type  Type
	Clock string
	Off   bool
}

// Left is a name to which an equation gives.
type Left struct {
	Name string
	At   int
}

// Eq is an equation; an asynchronous one.
type Eq struct {
	Left  []Left
	Async bool
	E     Expr
}

// Node is one.
type Node struct {
	Name            string
	At              int
	Ins, Outs, Vars []Decl
	Eqs             []Eq
}

// Deep: how many levels an expression has.
func Deep(e Expr) int {
	most := 0
	for _, k := range e.Kids {
		most = max(most, Deep(k))
	}
	return most + 1
}

// Each: an expression, and all below it, those above first.
func Each(e Expr, see func(e Expr)) {
	if see == nil {
		return
	}
	see(copyExpr(e)) // a copy: what is shown may be kept, or written into, and e stays as it is
	for _, k := range e.Kids {
		Each(k, see)
	}
}

// Const: is it a number, or a truth, by itself?
func Const(e Expr) bool {
	return e.Kind == Int || e.Kind == Bool
}

// Find: the node of a name; false: there is none.
func Find(l []Node, name string) (Node, bool) {
	for _, n := range l {
		if n.Name == name {
			return copyNode(n), true
		}
	}
	return Node{}, false
}

// All: a node's names: those that come in, that go out, and its own.
func All(n Node) []Decl {
	return slices.Concat(n.Ins, n.Outs, n.Vars)
}

// Named: one of them; false: there is none.
func Named(n Node, name string) (Decl, bool) {
	for _, l := range [...][]Decl{n.Ins, n.Outs, n.Vars} { // not All, which copies: this is asked often
		for _, d := range l {
			if d.Name == name {
				return d, true
			}
		}
	}
	return Decl{}, false
}

// copyNode: the same node, in memory of its own, so that nobody's later change shows in it.
func copyNode(n Node) Node {
	n.Ins, n.Outs, n.Vars = slices.Clone(n.Ins), slices.Clone(n.Outs), slices.Clone(n.Vars)
	n.Eqs = slices.Clone(n.Eqs)
	for i, q := range n.Eqs {
		n.Eqs[i].Left = slices.Clone(q.Left)
		n.Eqs[i].E = copyExpr(q.E)
	}
	return n
}

func copyExpr(e Expr) Expr {
	e.Kids = slices.Clone(e.Kids)
	for i, k := range e.Kids {
		e.Kids[i] = copyExpr(k)
	}
	return e
}
