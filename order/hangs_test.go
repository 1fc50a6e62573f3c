package order_test

import (
	"strconv"

	"girandole/clocks"
	"girandole/tree"
)

// hangs is what the names of a unit hang on, found in the tree as the document says it. A name is told by the
// calls through which its node is laid out, and itself.
type hangs struct {
	nodes []tree.Node
	on    map[string][]string
}

// laid is a node that is laid out: through which calls, and the guards of the clocks on which these are.
type laid struct {
	*hangs
	path   string
	n      tree.Node
	guards []string
}

func hangsOf(l []tree.Node, n tree.Node) *hangs {
	h := &hangs{nodes: l, on: map[string][]string{}}
	laid{hangs: h, n: n}.equations()
	return h
}

func (n laid) key(name string) string { return n.path + "/" + name }

func (n laid) of(name string) clocks.Clock {
	c, _ := clocks.Of(n.n, name)
	return c
}

// behind: guards of a clock of the node, and those on which it is called.
func (n laid) behind(c clocks.Clock) []string {
	l := append([]string(nil), n.guards...)
	for _, g := range c {
		l = append(l, n.key(g.Name))
	}
	return l
}

func (n laid) equations() {
	for _, q := range n.n.Eqs {
		c := n.of(q.Left[0].Name)
		switch {
		case q.Async:
			n.all(q.E.Kids, c)
		case q.E.Kind == tree.Call:
			for i, out := range n.called(q.E, c) {
				n.on[n.key(q.Left[i].Name)] = append(n.behind(c), out)
			}
		default:
			n.on[n.key(q.Left[0].Name)] = append(n.behind(c), n.expr(q.E, c)...)
		}
	}
}

// called: the Outs of a node that is laid out for a call.
func (n laid) called(e tree.Expr, c clocks.Clock) []string {
	callee, _ := tree.Find(n.nodes, e.Name)
	below := laid{hangs: n.hangs, path: n.path + "/" + strconv.Itoa(e.At), n: callee, guards: n.behind(c)}
	for i, d := range callee.Ins {
		n.on[below.key(d.Name)] = append(n.behind(c), n.expr(e.Kids[i], c)...)
	}
	below.equations()
	var outs []string
	for _, d := range callee.Outs {
		outs = append(outs, below.key(d.Name))
	}
	return outs
}

func (n laid) all(kids []tree.Expr, c clocks.Clock) []string {
	var l []string
	for _, k := range kids {
		l = append(l, n.expr(k, c)...)
	}
	return l
}

// expr: what an expression that is on a clock hangs on.
func (n laid) expr(e tree.Expr, c clocks.Clock) []string {
	switch e.Kind {
	case tree.Var:
		return []string{n.key(e.Name)}
	case tree.When:
		return append(n.expr(e.Kids[0], n.of(e.Name)), n.key(e.Name))
	case tree.Merge:
		l := append(n.expr(e.Kids[0], c.On(e.Name, false)), n.expr(e.Kids[1], c.On(e.Name, true))...)
		return append(l, n.key(e.Name))
	case tree.Call:
		return n.called(e, c)[:1]
	}
	l := n.all(e.Kids, c)
	if e.Kind == tree.Pre || e.Kind == tree.Fby || e.Kind == tree.Await {
		return nil // but nodes that are called below are laid out
	}
	return l
}

// ring: does some name hang on itself? Then some are left when those are taken away, again and again, that hang on
// none that is left.
func (h *hangs) ring() bool {
	for gone := true; gone; {
		gone = false
		for name, l := range h.on {
			left := false
			for _, other := range l {
				_, there := h.on[other]
				left = left || there
			}
			if !left {
				delete(h.on, name)
				gone = true
			}
		}
	}
	return len(h.on) > 0
}
