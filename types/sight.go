package types

import (
	"girandole/api"
	"girandole/lex"
	"girandole/tree"
)

// sight goes through a program in the order in which faults are told, and keeps the first one. It goes on
// behind that, as if there were none: what it finds from there on doesn't count any more.
type sight struct {
	nodes map[string]tree.Node
	names map[string]tree.Type // of the node that is looked at
	fault lex.Fault
}

func (s *sight) tell(wrong bool, at int, err api.Errno) {
	if wrong && s.fault.Err == api.OK {
		s.fault = lex.Fault{At: at, Err: err}
	}
}

func (s *sight) node(n tree.Node) {
	s.noFutures(n.Outs)
	for _, d := range n.Vars {
		s.tell(d.Clock != "" && (d.Type.Future || !s.truth(d.Clock)), d.At, api.ErrType)
	}
	for _, q := range n.Eqs {
		s.eq(q)
	}
}

func (s *sight) noFutures(l []tree.Decl) {
	for _, d := range l {
		s.tell(d.Type.Future, d.At, api.ErrType)
	}
}

// truth: is a name declared so? That of a future isn't.
func (s *sight) truth(name string) bool {
	return s.names[name] == tree.Type{Bool: true}
}

func (s *sight) eq(q tree.Eq) {
	things := s.things(q)
	for i := range min(len(q.Left), len(things)) {
		left := q.Left[i]
		s.tell(s.names[left.Name] != things[i], left.At, api.ErrType)
	}
}

// things: what an equation gives to its names.
func (s *sight) things(q tree.Eq) []tree.Type {
	t := s.expr(q.E)
	if q.E.Kind != tree.Call {
		return []tree.Type{t}
	}
	outs := s.nodes[q.E.Name].Outs
	s.tell(q.Async && len(outs) != 1, q.E.At, api.ErrMany)
	var l []tree.Type
	for _, d := range outs {
		l = append(l, tree.Type{Bool: d.Type.Bool, Future: d.Type.Future || q.Async})
	}
	return l
}
