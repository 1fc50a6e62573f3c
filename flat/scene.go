package flat

import (
	"slices"

	"girandole/api"
	"girandole/clocks"
	"girandole/tree"
)

// scene is a node that is laid out once: its names' places, where its futures come from, and the clock on
// which it is called.
type scene struct {
	*builder
	node    tree.Node
	names   map[string]int
	futures map[string]Origin
	on      []Guard
}

// lay: all of the node, step by step, up to the first fault.
func (s *scene) lay() {
	for _, step := range [...]func(){s.count, s.spawns, s.equations} {
		if s.fault.Err == api.OK {
			step()
		}
	}
}

func (s *scene) count() {
	for _, q := range s.node.Eqs {
		s.size += sizeOf(q.E)
	}
	s.tell(s.size > api.MaxFlat, s.At, api.ErrLimits)
}

func sizeOf(e tree.Expr) int {
	n := 1
	for _, k := range e.Kids {
		n += sizeOf(k)
	}
	return n
}

// spawns: where the futures come from that equations give is known ahead of all equations: one may be handed
// over ahead of the one that gives it.
func (s *scene) spawns() {
	for _, q := range s.node.Eqs {
		if q.Async {
			s.tell(len(s.on) > 0, q.E.At, api.ErrClock)
			s.futures[q.Left[0].Name] = Origin{Spawn: len(s.Spawns)}
			s.Spawns = append(s.Spawns, Spawn{Node: q.E.Name, At: q.E.At})
		}
	}
}

func (s *scene) equations() {
	for _, q := range s.node.Eqs {
		c := s.clock(q.Left[0].Name)
		switch {
		case q.Async:
			s.spawn(s.futures[q.Left[0].Name].Spawn, q.E, c)
		case q.E.Kind == tree.Call:
			for i, out := range s.call(q.E, c) {
				s.give(s.names[q.Left[i].Name], c, "copy", out)
			}
		default:
			s.give(s.names[q.Left[0].Name], c, "copy", s.expr(q.E, c))
		}
	}
}

// spawn: what the so-many-th one is handed.
func (s *scene) spawn(at int, e tree.Expr, c clocks.Clock) {
	var args []Atom
	var futures []Origin
	for i, d := range s.nodes[e.Name].Ins {
		if k := e.Kids[i]; d.Type.Future {
			futures = append(futures, s.futures[k.Name])
		} else {
			args = append(args, s.expr(k, c))
		}
	}
	s.Spawns[at].Args, s.Spawns[at].Futures = args, futures // not on the way: a kid's nodes may have spawns, too
}

// call lays out the node that is called, behind what it is handed: its Outs.
func (s *scene) call(e tree.Expr, c clocks.Clock) []Atom {
	called := s.open(s.nodes[e.Name], s.guards(c))
	for i, d := range called.node.Ins {
		if k := e.Kids[i]; d.Type.Future {
			called.futures[d.Name] = s.futures[k.Name]
		} else {
			s.give(called.names[d.Name], c, "copy", s.expr(k, c))
		}
	}
	called.lay()
	var outs []Atom
	for _, d := range called.node.Outs {
		outs = append(outs, called.name(d.Name))
	}
	return outs
}

// give: one more equation, on a clock of the node; the place to which it gives.
func (s *scene) give(dst int, c clocks.Clock, op string, args ...Atom) Atom {
	s.Eqs = append(s.Eqs, Eq{Op: op, Dst: dst, Args: args, On: s.guards(c)})
	return Atom{Var: dst}
}

func (s *scene) name(name string) Atom {
	return Atom{Var: s.names[name]}
}

func (s *scene) clock(name string) clocks.Clock {
	c, _ := clocks.Of(s.node, name)
	return c
}

// guards: of a clock of the node, behind those on which it is called; a new list each time.
func (s *scene) guards(c clocks.Clock) []Guard {
	l := slices.Clone(s.on)
	for _, g := range c {
		l = append(l, Guard{Var: s.names[g.Name], Off: g.Off})
	}
	return l
}
