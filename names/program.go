package names

import (
	"cmp"

	"girandole/api"
	"girandole/lex"
	"girandole/tree"
)

// program: its nodes by their names. Where two have one name, or a node isn't there, a look at it may tell
// anything: what is told ahead of it is that.
type program map[string]tree.Node

func programOf(l []tree.Node) program {
	p := program{}
	for _, n := range l {
		p[n.Name] = n
	}
	return p
}

func (p program) node(n tree.Node) lex.Fault {
	return cmp.Or(
		tooMuch(n),
		twice(places(tree.All(n), func(d tree.Decl) tree.Left { return tree.Left{Name: d.Name, At: d.At} })),
		firstOf(n.Vars, clockOf(n)),
		firstOf(n.Eqs, p.eqOf(n)),
		twice(given(n)),
		firstOf(n.Outs, givenIn(n)),
		firstOf(n.Vars, givenIn(n)),
	)
}

// cycle: does a node come to itself?
func (p program) cycle(n tree.Node) lex.Fault {
	met := set{}
	p.meet(n, met)
	if met.has(n.Name) {
		return lex.Fault{At: n.At, Err: api.ErrCycle}
	}
	return lex.Fault{}
}

// meet marks all nodes to which one comes by calls.
func (p program) meet(n tree.Node, met set) {
	for _, name := range Calls(n) {
		if met.put(name) {
			p.meet(p[name], met)
		}
	}
}

func tooMuch(n tree.Node) lex.Fault {
	if len(tree.All(n)) > api.MaxNames || len(n.Eqs) > api.MaxEqs {
		return lex.Fault{At: n.At, Err: api.ErrLimits}
	}
	return lex.Fault{}
}

// clockOf looks at declarations of a node: do their clocks mean something?
func clockOf(n tree.Node) func(d tree.Decl) lex.Fault {
	return func(d tree.Decl) lex.Fault {
		if _, ok := tree.Named(n, d.Clock); d.Clock != "" && !ok {
			return lex.Fault{At: d.At, Err: api.ErrName}
		}
		return lex.Fault{}
	}
}

// given: the names to which a node's equations give.
func given(n tree.Node) []tree.Left {
	var l []tree.Left
	for _, q := range n.Eqs {
		l = append(l, q.Left...)
	}
	return l
}

// givenIn looks at declarations of a node: does an equation give to them?
func givenIn(n tree.Node) func(d tree.Decl) lex.Fault {
	names := set{}
	for _, s := range given(n) {
		names.put(s.Name)
	}
	return func(d tree.Decl) lex.Fault {
		if !names.has(d.Name) {
			return lex.Fault{At: d.At, Err: api.ErrName}
		}
		return lex.Fault{}
	}
}
