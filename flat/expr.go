package flat

import (
	"girandole/api"
	"girandole/clocks"
	"girandole/tree"
)

// expr lays out an expression that is on a clock of the node: where what it is stands.
func (s *scene) expr(e tree.Expr, c clocks.Clock) Atom {
	switch e.Kind {
	case tree.Int, tree.Bool:
		return Atom{Const: true, N: e.N}
	case tree.Var:
		return s.name(e.Name)
	case tree.Neg:
		return s.give(s.place(), c, "neg", s.all(e.Kids, c)...)
	case tree.Not:
		return s.give(s.place(), c, "not", s.all(e.Kids, c)...)
	case tree.Binary:
		return s.give(s.place(), c, e.Name, s.all(e.Kids, c)...)
	case tree.If:
		return s.give(s.place(), c, "if", s.all(e.Kids, c)...)
	case tree.Arrow:
		return s.arrow(e, c)
	case tree.Fby:
		return s.keep(e.Kids[0].N, c, e.Kids[1])
	case tree.Pre:
		return s.keep(0, c, e.Kids[0])
	case tree.When:
		return s.expr(e.Kids[0], s.clock(e.Name)) // there more often than asked for
	case tree.Merge:
		return s.merge(e, c)
	case tree.Call:
		return s.call(e, c)[0]
	case tree.Await:
		return s.await(e)
	}
	return Atom{}
}

func (s *scene) all(kids []tree.Expr, c clocks.Clock) []Atom {
	var l []Atom
	for _, k := range kids {
		l = append(l, s.expr(k, c))
	}
	return l
}

// arrow: if true fby false then the first kid else the second one.
func (s *scene) arrow(e tree.Expr, c clocks.Clock) Atom {
	first := s.keep(1, c, tree.Expr{Kind: tree.Bool})
	return s.give(s.place(), c, "if", append([]Atom{first}, s.all(e.Kids, c)...)...)
}

// keep: a place that has what an expression was at the last instant of its clock. The mem stands ahead of
// those in the expression, so that it is set while these still have what they had.
func (s *scene) keep(init int64, c clocks.Clock, e tree.Expr) Atom {
	at, dst := len(s.Mems), s.place()
	s.Mems = append(s.Mems, Mem{Dst: dst, Init: init, On: s.guards(c)})
	next := s.expr(e, c)
	s.Mems[at].Next = next
	return Atom{Var: dst}
}

// merge: if its name is true the first kid, else the second one; of the other one, which isn't there, any
// value will do.
func (s *scene) merge(e tree.Expr, c clocks.Clock) Atom {
	x := s.expr(e.Kids[0], c.On(e.Name, false))
	y := s.expr(e.Kids[1], c.On(e.Name, true))
	return s.give(s.place(), c, "if", s.name(e.Name), x, y)
}

func (s *scene) await(e tree.Expr) Atom {
	s.tell(len(s.on) > 0, e.At, api.ErrClock)
	w := Wait{Dst: s.place(), From: s.futures[e.Name], At: e.At}
	for _, k := range e.Kids {
		w.Ahead = append(w.Ahead, k.N)
	}
	s.Waits = append(s.Waits, w)
	return Atom{Var: w.Dst}
}
