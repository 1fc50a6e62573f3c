package types

import (
	"girandole/api"
	"girandole/tree"
)

// expr: what an expression is, behind all that is told of it.
func (s *sight) expr(e tree.Expr) tree.Type {
	switch e.Kind {
	case tree.Bool:
		return tree.Type{Bool: true}
	case tree.Var:
		s.tell(s.names[e.Name].Future, e.At, api.ErrType)
		return s.names[e.Name]
	case tree.Neg:
		return s.must(tree.Type{}, e.Kids...)
	case tree.Not:
		return s.must(tree.Type{Bool: true}, e.Kids...)
	case tree.Binary:
		return s.binary(e)
	case tree.If:
		s.must(tree.Type{Bool: true}, e.Kids[0])
		return s.alike(e.Kids[1:])
	case tree.Arrow, tree.Fby, tree.Pre:
		return s.alike(e.Kids)
	case tree.When, tree.Merge:
		s.tell(!s.truth(e.Name), e.At, api.ErrType)
		return s.alike(e.Kids)
	case tree.Call:
		return s.call(e)
	case tree.Await:
		return s.await(e)
	}
	return tree.Type{} // an Int
}

// must: each of these expressions, in their order, is of that type.
func (s *sight) must(t tree.Type, l ...tree.Expr) tree.Type {
	for _, e := range l {
		s.tell(s.expr(e) != t, e.At, api.ErrType)
	}
	return t
}

// alike: all of these expressions are of one type, that of the first.
func (s *sight) alike(l []tree.Expr) tree.Type {
	return s.must(s.expr(l[0]), l[1:]...)
}

func (s *sight) binary(e tree.Expr) tree.Type {
	switch e.Name {
	case "and", "or", "xor":
		return s.must(tree.Type{Bool: true}, e.Kids...)
	case "=", "<>":
		s.alike(e.Kids)
		return tree.Type{Bool: true}
	case "<", "<=", ">", ">=":
		s.must(tree.Type{}, e.Kids...)
		return tree.Type{Bool: true}
	}
	s.must(tree.Type{}, e.Kids...)
	if e.Name == "/" || e.Name == "mod" {
		by := e.Kids[1]
		s.tell(by.Kind != tree.Int || by.N == 0, by.At, api.ErrZero)
	}
	return tree.Type{}
}

func (s *sight) call(e tree.Expr) tree.Type {
	n := s.nodes[e.Name]
	for i := range min(len(e.Kids), len(n.Ins)) {
		s.handed(e.Kids[i], n.Ins[i].Type)
	}
	if len(n.Outs) == 0 {
		return tree.Type{}
	}
	return n.Outs[0].Type
}

// handed: what a called node gets. Futures are handed over as they are, by their names alone.
func (s *sight) handed(e tree.Expr, t tree.Type) {
	if e.Kind == tree.Var {
		s.tell(s.names[e.Name] != t, e.At, api.ErrType)
		return
	}
	s.must(t, e)
	s.tell(t.Future, e.At, api.ErrType)
}

func (s *sight) await(e tree.Expr) tree.Type {
	t := s.names[e.Name]
	s.tell(!t.Future, e.At, api.ErrType)
	s.tell(len(e.Kids) > api.MaxAfter, e.At, api.ErrBig)
	return s.must(tree.Type{Bool: t.Bool}, e.Kids...)
}
