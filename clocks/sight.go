package clocks

import (
	"girandole/api"
	"girandole/lex"
	"girandole/tree"
)

// sight goes through a program in the order in which faults are told, and keeps the first one. It goes on
// behind that, as if there were none: what it finds from there on doesn't count any more.
type sight struct {
	ins   map[string][]tree.Decl
	at    tree.Node // the node that is looked at
	fault lex.Fault
}

func (s *sight) tell(wrong bool, at int, err api.Errno) {
	if wrong && s.fault.Err == api.OK {
		s.fault = lex.Fault{At: at, Err: err}
	}
}

func (s *sight) node(n tree.Node) {
	s.at = n
	for _, d := range n.Vars {
		_, ok := Of(n, d.Name)
		s.tell(!ok, d.At, api.ErrCycle)
	}
	for _, q := range n.Eqs {
		s.eq(q)
	}
}

// of: the clock of a name of the node.
func (s *sight) of(name string) Clock {
	c, _ := Of(s.at, name) // of one that hangs on itself any will do: that is told already
	return c
}

func (s *sight) eq(q tree.Eq) {
	var c Clock
	for i, left := range q.Left {
		if i == 0 {
			c = s.of(left.Name)
		}
		s.tell(!s.of(left.Name).Same(c), left.At, api.ErrClock)
	}
	s.expr(q.E, c)
}

// expr: an expression must be on that clock.
func (s *sight) expr(e tree.Expr, c Clock) {
	switch e.Kind {
	case tree.Var:
		s.tell(!s.of(e.Name).Same(c), e.At, api.ErrClock)
	case tree.Await:
		s.tell(!c.Same(nil), e.At, api.ErrClock)
	case tree.When:
		outer := s.of(e.Name)
		s.tell(!outer.On(e.Name, e.Off).Same(c), e.At, api.ErrClock)
		s.expr(e.Kids[0], outer)
	case tree.Merge:
		s.tell(!s.of(e.Name).Same(c), e.At, api.ErrClock)
		s.expr(e.Kids[0], c.On(e.Name, false))
		s.expr(e.Kids[1], c.On(e.Name, true))
	case tree.Call:
		s.call(e, c)
	default:
		for _, k := range e.Kids {
			s.expr(k, c)
		}
	}
}

// call: what is handed over must be there, but for futures: these are there always.
func (s *sight) call(e tree.Expr, c Clock) {
	for i, d := range s.ins[e.Name] {
		if i < len(e.Kids) && !d.Type.Future {
			s.expr(e.Kids[i], c)
		}
	}
}
