package flat

import (
	"girandole/api"
	"girandole/lex"
	"girandole/tree"
)

// builder lays out a unit, and keeps the first fault: behind that no more nodes are laid out.
type builder struct {
	*Unit
	nodes map[string]tree.Node
	fault lex.Fault
}

func (b *builder) tell(wrong bool, at int, err api.Errno) {
	if wrong && b.fault.Err == api.OK {
		b.fault = lex.Fault{At: at, Err: err}
	}
}

// place: one more.
func (b *builder) place() int {
	b.Vars++
	return b.Vars - 1
}

// open: a node's scene; each name that is no future has a place.
func (b *builder) open(n tree.Node, on []Guard) *scene {
	s := &scene{builder: b, node: n, names: map[string]int{}, futures: map[string]Origin{}, on: on}
	for _, d := range tree.All(n) {
		if !d.Type.Future {
			s.names[d.Name] = b.place()
		}
	}
	return s
}

// whole lays out the unit's own node.
func (b *builder) whole(n tree.Node) {
	s := b.open(n, nil)
	for _, d := range n.Ins {
		if d.Type.Future {
			s.futures[d.Name] = Origin{Spawn: -1, Param: len(s.futures)}
		} else {
			b.Ins = append(b.Ins, s.names[d.Name])
		}
	}
	for _, d := range n.Outs {
		b.Outs = append(b.Outs, s.names[d.Name])
	}
	s.lay()
}
