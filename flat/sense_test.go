package flat_test

import (
	"girandole/clocks"
	"girandole/tree"
)

// instance is a node that is called by an expression of another one, on a clock of that, or that runs by itself:
// what its names are is found in the tree, instant by instant, as the document says it.
type instance struct {
	nodes []tree.Node
	rows  [][]int64
	n     tree.Node
	from  *instance // nil: it is the first
	call  tree.Expr
	clock clocks.Clock
	below map[int]*instance // by the place of the call
	found map[moment]int64
}

// moment: a name at an instant.
type moment struct {
	name string
	at   int
}

func instanceOf(l []tree.Node, n tree.Node, rows [][]int64) *instance {
	return &instance{nodes: l, rows: rows, n: n, below: map[int]*instance{}, found: map[moment]int64{}}
}

// called: the node that stands for a call in this one.
func (i *instance) called(e tree.Expr, c clocks.Clock) *instance {
	if i.below[e.At] == nil {
		n, _ := tree.Find(i.nodes, e.Name)
		j := instanceOf(i.nodes, n, nil)
		j.from, j.call, j.clock = i, e, c
		i.below[e.At] = j
	}
	return i.below[e.At]
}

// of: the clock of a name.
func (i *instance) of(name string) clocks.Clock {
	c, _ := clocks.Of(i.n, name)
	return c
}

// there: is what is on a clock there, at an instant?
func (i *instance) there(c clocks.Clock, at int) bool {
	if i.from != nil && !i.from.there(i.clock, at) {
		return false
	}
	for _, g := range c { // the outer ones first: what comes behind is there then
		if (i.name(g.Name, at) == 0) != g.Off {
			return false
		}
	}
	return true
}

// last: the last instant ahead of one at which what is on a clock was there; -1: there was none.
func (i *instance) last(c clocks.Clock, at int) int {
	for at--; at >= 0 && !i.there(c, at); at-- {
	}
	return at
}

// name: what a name is, that is there at an instant.
func (i *instance) name(name string, at int) int64 {
	m := moment{name, at}
	if _, ok := i.found[m]; !ok {
		i.found[m] = i.find(name, at)
	}
	return i.found[m]
}

func (i *instance) find(name string, at int) int64 {
	for k, d := range i.n.Ins {
		switch {
		case d.Name != name:
		case i.from == nil:
			return i.rows[at][k]
		default:
			return i.from.expr(i.call.Kids[k], i.clock, at)
		}
	}
	for _, q := range i.n.Eqs {
		for k, left := range q.Left {
			switch {
			case left.Name != name:
			case q.E.Kind == tree.Call:
				j := i.called(q.E, i.of(name))
				return j.name(j.n.Outs[k].Name, at)
			default:
				return i.expr(q.E, i.of(name), at)
			}
		}
	}
	panic("nothing gives to " + name)
}

// future: the node from which one comes.
func (i *instance) future(name string) *instance {
	for k, d := range i.n.Ins {
		if d.Name == name {
			return i.from.future(i.call.Kids[k].Name)
		}
	}
	for _, q := range i.n.Eqs {
		if q.Left[0].Name == name {
			return i.called(q.E, nil)
		}
	}
	panic("nothing gives to " + name)
}

// expr: what an expression is, that is on a clock, and there at an instant.
func (i *instance) expr(e tree.Expr, c clocks.Clock, at int) int64 {
	switch e.Kind {
	case tree.Int, tree.Bool:
		return e.N
	case tree.Var:
		return i.name(e.Name, at)
	case tree.When:
		return i.expr(e.Kids[0], i.of(e.Name), at)
	case tree.Merge:
		if i.name(e.Name, at) != 0 {
			return i.expr(e.Kids[0], c.On(e.Name, false), at)
		}
		return i.expr(e.Kids[1], c.On(e.Name, true), at)
	case tree.Call:
		j := i.called(e, c)
		return j.name(j.n.Outs[0].Name, at)
	case tree.Await:
		if at < len(e.Kids) {
			return e.Kids[at].N
		}
		j := i.future(e.Name)
		return j.name(j.n.Outs[0].Name, at-len(e.Kids))
	case tree.Arrow, tree.Fby, tree.Pre:
		return i.delayed(e, c, at)
	}
	var l []int64
	for _, k := range e.Kids {
		l = append(l, i.expr(k, c, at))
	}
	op := map[int]string{tree.Neg: "neg", tree.Not: "not", tree.If: "if", tree.Binary: e.Name}[e.Kind]
	return apply(op, l...)
}

// delayed: what hangs on whether there was an instant ahead of this one.
func (i *instance) delayed(e tree.Expr, c clocks.Clock, at int) int64 {
	last, kid := i.last(c, at), e.Kids[len(e.Kids)-1]
	switch {
	case e.Kind == tree.Arrow && last >= 0:
		return i.expr(kid, c, at)
	case last >= 0:
		return i.expr(kid, c, last)
	case e.Kind == tree.Pre:
		return 0
	}
	return i.expr(e.Kids[0], c, at)
}
