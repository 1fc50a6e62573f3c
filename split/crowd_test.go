package split_test

import (
	"slices"

	"girandole/api"
	"girandole/flat"
	"girandole/lex"
	"girandole/order"
	"girandole/tree"
)

// crowd is what the tree of a program tells of its workers: which nodes run, and, up to one above the most, the
// nodes of the workers, and the edges between.
type crowd struct {
	nodes   []tree.Node
	runs    map[string]bool
	workers []string
	edges   []string
}

// crowdOf: that of a program, and its fault.
func crowdOf(l []tree.Node) (*crowd, lex.Fault) {
	c := &crowd{nodes: l, runs: map[string]bool{}}
	c.run(l[0].Name)
	for _, n := range l {
		if !c.runs[n.Name] {
			continue
		}
		u, f := flat.Flatten(l, n.Name)
		if f == (lex.Fault{}) {
			_, f = order.Sort(u)
		}
		if f != (lex.Fault{}) {
			return nil, f
		}
	}
	c.worker(l[0], nil)
	if len(c.workers) > 30 {
		return nil, lex.Fault{At: l[0].At, Err: api.ErrLimits}
	}
	slices.Sort(c.workers)
	slices.Sort(c.edges)
	return c, lex.Fault{}
}

func (c *crowd) node(name string) tree.Node {
	n, _ := tree.Find(c.nodes, name)
	return n
}

// run: a node runs, and, if it can be laid out, what runs by it.
func (c *crowd) run(name string) {
	if c.runs[name] {
		return
	}
	c.runs[name] = true
	if _, f := flat.Flatten(c.nodes, name); f == (lex.Fault{}) {
		c.start(name)
	}
}

// start: what runs by a node that is laid out, and by those that it calls at once.
func (c *crowd) start(name string) {
	for _, q := range c.node(name).Eqs {
		tree.Each(q.E, func(e tree.Expr) {
			switch {
			case e.Kind == tree.Call && q.Async && e.At == q.E.At:
				c.run(e.Name)
			case e.Kind == tree.Call:
				c.start(e.Name)
			}
		})
	}
}

// worker: one of a node; of its futures it is known of which node the worker is from which each comes.
func (c *crowd) worker(n tree.Node, futures map[string]string) {
	if len(c.workers) > 30 {
		return
	}
	c.workers = append(c.workers, n.Name)
	c.lay(n, n.Name, futures)
}

// lay a node out in the unit of a worker.
func (c *crowd) lay(n tree.Node, worker string, futures map[string]string) {
	known := map[string]string{}
	for name, from := range futures {
		known[name] = from
	}
	for _, q := range n.Eqs {
		if q.Async {
			known[q.Left[0].Name] = q.E.Name
		}
	}
	for _, q := range n.Eqs {
		if !q.Async {
			c.expr(q.E, worker, known)
			continue
		}
		for i, d := range c.node(q.E.Name).Ins {
			if !d.Type.Future {
				c.edges = append(c.edges, edgeText(worker, q.E.Name, true, nil))
				c.expr(q.E.Kids[i], worker, known)
			}
		}
		c.worker(c.node(q.E.Name), c.handed(q.E, known))
	}
}

// handed: of a called node's futures from which node's worker they come.
func (c *crowd) handed(e tree.Expr, known map[string]string) map[string]string {
	m := map[string]string{}
	for i, d := range c.node(e.Name).Ins {
		if d.Type.Future {
			m[d.Name] = known[e.Kids[i].Name]
		}
	}
	return m
}

func (c *crowd) expr(e tree.Expr, worker string, known map[string]string) {
	switch e.Kind {
	case tree.Await:
		var ahead []int64
		for _, k := range e.Kids {
			ahead = append(ahead, k.N)
		}
		c.edges = append(c.edges, edgeText(known[e.Name], worker, false, ahead))
		return
	case tree.Call:
		c.lay(c.node(e.Name), worker, c.handed(e, known))
	}
	for _, k := range e.Kids {
		c.expr(k, worker, known)
	}
}
