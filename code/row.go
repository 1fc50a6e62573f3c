package code

import (
	"slices"

	"girandole/flat"
	"girandole/split"
)

// row: a worker's instructions of one instant. It takes from all edges ahead of putting into any: so it waits,
// within an instant, for those alone from whom an edge without delay comes to it, and of such edges there is no
// way back. Keep stands last, as it writes over places that may be handed over; it is there also where nothing is
// kept, so that no row is empty.
func row(p *split.Plan, worker int) []Ins {
	w := p.Workers[worker]
	var in, out []Ins
	if worker == 0 {
		in, out = reads(w), writes(w)
	}
	return slices.Concat(in, receives(p, worker), does(w), sends(p, worker), out, []Ins{{Kind: Keep}})
}

func reads(w split.Worker) []Ins {
	var l []Ins
	for port, place := range w.Ins {
		l = append(l, Ins{Kind: Read, N: port, Dst: place})
	}
	return l
}

func receives(p *split.Plan, worker int) []Ins {
	var l []Ins
	for i, e := range p.Edges {
		if e.To == worker {
			l = append(l, Ins{Kind: Recv, N: i, Dst: target(p.Workers[worker], e)})
		}
	}
	return l
}

// target: where what comes by an edge goes in the worker to which it comes.
func target(w split.Worker, e split.Edge) int {
	if e.Arg {
		return w.Ins[e.Port]
	}
	return w.Waits[e.Port].Dst
}

func does(w split.Worker) []Ins {
	var l []Ins
	for _, eq := range w.Order {
		l = append(l, Ins{Kind: Do, N: eq})
	}
	return l
}

func sends(p *split.Plan, worker int) []Ins {
	var l []Ins
	for i, e := range p.Edges {
		if e.From == worker {
			l = append(l, Ins{Kind: Send, N: i, What: e.What})
		}
	}
	return l
}

func writes(w split.Worker) []Ins {
	var l []Ins
	for port, place := range w.Outs {
		l = append(l, Ins{Kind: Write, N: port, What: flat.Atom{Var: place}})
	}
	return l
}
