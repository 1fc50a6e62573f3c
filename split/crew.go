package split

import (
	"slices"

	"girandole/api"
	"girandole/flat"
	"girandole/order"
	"girandole/tree"
)

// crew is a plan that grows, worker by worker, and the nodes of which they are made.
type crew struct {
	*Plan
	nodes []tree.Node
}

// whole: all workers and edges, if the workers aren't too many.
func (c *crew) whole() bool {
	c.Workers = append(c.Workers, c.worker(c.nodes[0].Name))
	for w := 0; w < c.Len(); w++ {
		if c.Len()+len(c.Workers[w].Spawns) > api.MaxWorker {
			return false
		}
		c.spread(w)
	}
	return true
}

// worker: one of a node of which no fault was told. It is laid out anew, so that no two workers share a unit.
func (c *crew) worker(node string) Worker {
	u, _ := flat.Flatten(c.nodes, node)
	o, _ := order.Sort(u)
	return Worker{Unit: u, Order: o}
}

// spread: the workers of a worker's async equations, behind all others in the order of these, and the edges for
// what it hands over and awaits.
func (c *crew) spread(w int) {
	boss, first := c.Workers[w], c.Len()
	source := func(o flat.Origin) int {
		if o.Spawn >= 0 {
			return first + o.Spawn
		}
		return boss.Futures[o.Param]
	}
	for _, s := range boss.Spawns {
		c.hire(w, s, source)
	}
	for i, wait := range boss.Waits {
		from := source(wait.From)
		gives := flat.Atom{Var: c.Workers[from].Outs[0]}
		c.Edges = append(c.Edges, Edge{From: from, To: w, What: gives, Port: i, Ahead: slices.Clone(wait.Ahead)})
	}
}

// hire: the worker of an async equation in another one's unit, where it is known from which workers futures come.
func (c *crew) hire(boss int, s flat.Spawn, source func(o flat.Origin) int) {
	worker := c.worker(s.Node)
	for i, a := range s.Args {
		c.Edges = append(c.Edges, Edge{From: boss, To: c.Len(), Arg: true, What: a, Port: i})
	}
	for _, o := range s.Futures {
		worker.Futures = append(worker.Futures, source(o))
	}
	c.Workers = append(c.Workers, worker)
}
