package names

import (
	"cmp"

	"girandole/api"
	"girandole/lex"
	"girandole/tree"
)

// eqOf looks at equations of a node.
func (p program) eqOf(n tree.Node) func(q tree.Eq) lex.Fault {
	return func(q tree.Eq) lex.Fault {
		all := below(q.E)
		return cmp.Or(
			firstOf(q.Left, giveable(n)),
			firstOf(all, p.exprOf(n)),
			p.things(q),
			firstOf(all[1:], p.single), // the whole expression may have more things than one
		)
	}
}

// below: an expression, and all below it, in Each's order.
func below(e tree.Expr) []tree.Expr {
	var l []tree.Expr
	tree.Each(e, func(e tree.Expr) { l = append(l, e) })
	return l
}

// giveable looks at names to which an equation gives: may it?
func giveable(n tree.Node) func(s tree.Left) lex.Fault {
	n.Ins = nil // what comes in isn't given to
	return func(s tree.Left) lex.Fault {
		if _, ok := tree.Named(n, s.Name); !ok {
			return lex.Fault{At: s.At, Err: api.ErrName}
		}
		return lex.Fault{}
	}
}

// exprOf looks at expressions of a node, each by itself: do their names mean something?
func (p program) exprOf(n tree.Node) func(e tree.Expr) lex.Fault {
	return func(e tree.Expr) lex.Fault {
		switch e.Kind {
		case tree.Var, tree.When, tree.Merge, tree.Await:
			if _, ok := tree.Named(n, e.Name); !ok {
				return lex.Fault{At: e.At, Err: api.ErrName}
			}
		case tree.Call:
			return p.call(e)
		}
		return lex.Fault{}
	}
}

func (p program) call(e tree.Expr) lex.Fault {
	n, ok := p[e.Name]
	switch {
	case !ok:
		return lex.Fault{At: e.At, Err: api.ErrName}
	case len(e.Kids) != len(n.Ins):
		return lex.Fault{At: e.At, Err: api.ErrMany}
	}
	return lex.Fault{}
}

// things: are there as many as names to which they are given?
func (p program) things(q tree.Eq) lex.Fault {
	n := 1
	if q.E.Kind == tree.Call {
		n = len(p[q.E.Name].Outs)
	}
	if len(q.Left) != n {
		return lex.Fault{At: q.E.At, Err: api.ErrMany}
	}
	return lex.Fault{}
}

// single: has an expression just one thing?
func (p program) single(e tree.Expr) lex.Fault {
	if e.Kind == tree.Call && len(p[e.Name].Outs) != 1 {
		return lex.Fault{At: e.At, Err: api.ErrMany}
	}
	return lex.Fault{}
}
