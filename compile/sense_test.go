package compile_test

import (
	"girandole/tree"
	"girandole/value"
)

// stream is what something is at an instant at which it is there; when tells at which ones it is.
type (
	stream func(at int) int64
	when   func(at int) bool
)

// scope is a node, as it is called at one place, at once or by itself: what its names are, as the document says
// it of the tree, without any of the layers that make workers of it.
type scope struct {
	nodes   []tree.Node
	node    tree.Node
	on      when
	streams map[string]stream
}

// sense: what a program says of rows, port by port.
func sense(l []tree.Node, rows [][]int64) [][]int64 {
	var ins []stream
	for port := range l[0].Ins {
		ins = append(ins, func(at int) int64 {
			if port < len(rows[at]) {
				return rows[at][port]
			}
			return 0
		})
	}
	s := scopeOf(l, l[0].Name, func(at int) bool { return true }, ins)
	said := make([][]int64, len(l[0].Outs))
	for port := range said {
		for at := range rows {
			said[port] = append(said[port], s.out(port)(at))
		}
	}
	return said
}

func scopeOf(l []tree.Node, name string, on when, ins []stream) *scope {
	n, _ := tree.Find(l, name)
	s := &scope{nodes: l, node: n, on: on, streams: map[string]stream{}}
	for i, d := range n.Ins {
		s.streams[d.Name] = ins[i]
	}
	for _, q := range n.Eqs {
		s.equation(q)
	}
	return s
}

// equation: a name to which an async one gives is what its node gives: only an Await looks at it.
func (s *scope) equation(q tree.Eq) {
	on := s.clock(q.Left[0].Name)
	if q.E.Kind != tree.Call {
		s.streams[q.Left[0].Name] = kept(s.expr(q.E, on))
		return
	}
	called := s.call(q.E, on)
	for i, left := range q.Left {
		s.streams[left.Name] = called.out(i)
	}
}

func (s *scope) out(i int) stream {
	return s.streams[s.node.Outs[i].Name]
}

// kept: a stream of which each value is found once.
func kept(f stream) stream {
	known := map[int]int64{}
	return func(at int) int64 {
		v, ok := known[at]
		if !ok {
			v = f(at)
			known[at] = v
		}
		return v
	}
}

// clock: when a name is there.
func (s *scope) clock(name string) when {
	d, _ := tree.Named(s.node, name)
	if d.Clock == "" {
		return s.on
	}
	return s.gate(s.clock(d.Clock), d.Clock, d.Off)
}

func (s *scope) gate(on when, name string, off bool) when {
	return func(at int) bool { return on(at) && (s.streams[name](at) == 0) == off }
}

func (s *scope) call(e tree.Expr, on when) *scope {
	return scopeOf(s.nodes, e.Name, on, s.all(e.Kids, on))
}

func (s *scope) all(kids []tree.Expr, on when) []stream {
	var l []stream
	for _, k := range kids {
		l = append(l, s.expr(k, on))
	}
	return l
}

func (s *scope) expr(e tree.Expr, on when) stream {
	switch e.Kind {
	case tree.Int, tree.Bool:
		return func(at int) int64 { return e.N }
	case tree.Var:
		return func(at int) int64 { return s.streams[e.Name](at) }
	case tree.When:
		return s.expr(e.Kids[0], s.clock(e.Name))
	case tree.Merge:
		return s.merge(e, on)
	case tree.Call:
		return s.call(e, on).out(0)
	case tree.Await:
		return s.await(e)
	case tree.Arrow, tree.Pre, tree.Fby:
		return delayed(e.Kind, on, s.all(e.Kids, on))
	}
	op := map[int]string{tree.Neg: "neg", tree.Not: "not", tree.If: "if", tree.Binary: e.Name}[e.Kind]
	kids := s.all(e.Kids, on)
	return func(at int) int64 {
		var args []int64
		for _, k := range kids {
			args = append(args, k(at))
		}
		return value.Apply(op, args...)
	}
}

func (s *scope) merge(e tree.Expr, on when) stream {
	yes, no := s.expr(e.Kids[0], s.gate(on, e.Name, false)), s.expr(e.Kids[1], s.gate(on, e.Name, true))
	return func(at int) int64 {
		if s.streams[e.Name](at) != 0 {
			return yes(at)
		}
		return no(at)
	}
}

func (s *scope) await(e tree.Expr) stream {
	return func(at int) int64 {
		if at < len(e.Kids) {
			return e.Kids[at].N
		}
		return s.streams[e.Name](at - len(e.Kids))
	}
}

// delayed: what hangs on the last instant at which it was there.
func delayed(kind int, on when, kids []stream) stream {
	ahead, behind := kids[0], kids[len(kids)-1]
	return func(at int) int64 {
		last := at - 1
		for last >= 0 && !on(last) {
			last--
		}
		switch {
		case last < 0 && kind == tree.Pre:
			return 0
		case last < 0:
			return ahead(at)
		case kind == tree.Arrow:
			return behind(at)
		}
		return behind(last)
	}
}
