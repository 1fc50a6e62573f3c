package solo_test

import (
	"testing"

	"girandole/tree"
	"girandole/value"
)

// sample is what something is at an instant, as far as that is known.
type sample struct {
	known bool
	n     int64
}

// stream is what something is, instant by instant; where it isn't there nothing is known of it.
type stream []sample

// scope is a node, for each call one: its streams are found in the tree, as the document says it, each time a
// little more of them, till all is known. Of on 1 is where the node is there.
type scope struct {
	nodes   []tree.Node
	node    tree.Node
	on      stream
	streams map[string]stream
	below   map[int]*scope // by the place of the call
}

func scopeOf(l []tree.Node, n tree.Node, on stream) *scope {
	s := &scope{nodes: l, node: n, on: on, streams: map[string]stream{}, below: map[int]*scope{}}
	for _, d := range tree.All(n) {
		s.streams[d.Name] = make(stream, len(on))
	}
	return s
}

// sense: what goes out of the first node.
func sense(t *testing.T, l []tree.Node, rows [][]int64) [][]int64 {
	t.Helper()
	s := scopeOf(l, l[0], always(len(rows), 1))
	for i, d := range l[0].Ins {
		for at, row := range rows {
			s.streams[d.Name][at].known = true
			if i < len(row) {
				s.streams[d.Name][at].n = row[i]
			}
		}
	}
	for range 500 {
		s.more()
		if outs, ok := s.outs(len(rows)); ok {
			return outs
		}
	}
	t.Fatalf("%s: something isn't found", tree.Print(l...))
	return nil
}

func (s *scope) outs(instants int) ([][]int64, bool) {
	l := make([][]int64, instants)
	for _, d := range s.node.Outs {
		for at, x := range s.streams[d.Name] {
			if !x.known {
				return nil, false
			}
			l[at] = append(l[at], x.n)
		}
	}
	return l, true
}

func always(instants int, n int64) stream {
	l := make(stream, instants)
	for i := range l {
		l[i] = sample{true, n}
	}
	return l
}

// more: of each equation what is known by now.
func (s *scope) more() {
	for _, q := range s.node.Eqs {
		on := s.clock(q.Left[0].Name)
		if q.E.Kind != tree.Call {
			s.streams[q.Left[0].Name] = s.expr(q.E, on)
			continue
		}
		called := s.call(q.E, on)
		for i, left := range q.Left {
			s.streams[left.Name] = called.streams[called.node.Outs[i].Name]
		}
	}
}

// clock: where a name is there.
func (s *scope) clock(name string) stream {
	d, _ := tree.Named(s.node, name)
	if d.Clock == "" {
		return s.on
	}
	return s.gate(s.clock(d.Clock), d.Clock, d.Off)
}

// gate: where something is there, and a name is true, or false.
func (s *scope) gate(on stream, name string, off bool) stream {
	l := make(stream, len(on))
	for i, x := range on {
		switch c := s.streams[name][i]; {
		case x.known && x.n == 0:
			l[i] = x
		case x.known && c.known && off:
			l[i] = sample{true, 1 - c.n}
		case x.known && c.known:
			l[i] = c
		}
	}
	return l
}

func (s *scope) call(e tree.Expr, on stream) *scope {
	if s.below[e.At] == nil {
		n, _ := tree.Find(s.nodes, e.Name)
		s.below[e.At] = scopeOf(s.nodes, n, on)
	}
	called := s.below[e.At]
	called.on = on
	for i, d := range called.node.Ins {
		called.streams[d.Name] = s.expr(e.Kids[i], on)
	}
	called.more()
	return called
}

func (s *scope) expr(e tree.Expr, on stream) stream {
	switch e.Kind {
	case tree.Int, tree.Bool:
		return always(len(on), e.N)
	case tree.Var:
		return s.streams[e.Name]
	case tree.When:
		return s.expr(e.Kids[0], s.clock(e.Name))
	case tree.Merge:
		return s.merge(e, on)
	case tree.Call:
		called := s.call(e, on)
		return called.streams[called.node.Outs[0].Name]
	case tree.Arrow, tree.Pre, tree.Fby:
		return delayed(e.Kind, on, s.all(e.Kids, on))
	}
	op := map[int]string{tree.Neg: "neg", tree.Not: "not", tree.If: "if", tree.Binary: e.Name}[e.Kind]
	return applied(op, on, s.all(e.Kids, on))
}

func (s *scope) all(kids []tree.Expr, on stream) []stream {
	var l []stream
	for _, k := range kids {
		l = append(l, s.expr(k, on))
	}
	return l
}

func (s *scope) merge(e tree.Expr, on stream) stream {
	yes, no := s.expr(e.Kids[0], s.gate(on, e.Name, false)), s.expr(e.Kids[1], s.gate(on, e.Name, true))
	l := make(stream, len(on))
	for i, c := range s.streams[e.Name] {
		if c.known && c.n != 0 {
			l[i] = yes[i]
		} else if c.known {
			l[i] = no[i]
		}
	}
	return l
}

// applied: a sign, where what is below it is there.
func applied(op string, on stream, kids []stream) stream {
	l := make(stream, len(on))
	for i := range l {
		known := on[i] == sample{true, 1}
		var args []int64
		for _, k := range kids {
			known = known && k[i].known
			args = append(args, k[i].n)
		}
		if known {
			l[i] = sample{true, value.Apply(op, args...)}
		}
	}
	return l
}

// delayed: what hangs on the last instant at which it was there.
func delayed(kind int, on stream, kids []stream) stream {
	l := make(stream, len(on))
	last := -1
	for i, x := range on {
		if !x.known {
			return l
		}
		if x.n == 0 {
			continue
		}
		switch ahead, behind := kids[0], kids[len(kids)-1]; {
		case kind == tree.Pre && last < 0:
			l[i] = sample{known: true}
		case last < 0:
			l[i] = ahead[i]
		case kind == tree.Arrow:
			l[i] = behind[i]
		default:
			l[i] = behind[last]
		}
		last = i
	}
	return l
}
