package split

import (
	"girandole/flat"
	"girandole/lex"
	"girandole/order"
	"girandole/tree"
)

// running: the nodes that run, by their names, and what is wrong with each.
type running map[string]lex.Fault

// firstFault: node by node, of those that run. All of them are looked at before any worker is made, as there
// may be far more workers than a plan may have.
func firstFault(l []tree.Node) lex.Fault {
	r := running{}
	r.add(l, l[0].Name)
	for _, n := range l {
		if f := r[n.Name]; f != (lex.Fault{}) {
			return f
		}
	}
	return lex.Fault{}
}

// add a node, and those that run by its unit's async equations, if it can be laid out.
func (r running) add(l []tree.Node, name string) {
	if _, met := r[name]; met {
		return
	}
	u, f := flat.Flatten(l, name)
	r[name] = f
	if u == nil {
		return
	}
	_, r[name] = order.Sort(u)
	for _, s := range u.Spawns {
		r.add(l, s.Node)
	}
}
