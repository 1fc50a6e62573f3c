package split_test

import (
	"math/rand"

	"girandole/flat"
	"girandole/split"
	"girandole/value"
)

// gang runs a plan by what stands in it alone: each worker does an instant, when a value has come by each edge
// that goes to it.
type gang struct {
	*split.Plan
	rows, said [][]int64
	places     [][]int64 // of each worker
	instants   []int     // that it has done
	way        [][]int64 // of each edge the values on it
}

func gangOf(p *split.Plan, rows [][]int64) *gang {
	g := &gang{Plan: p, rows: rows, instants: make([]int, p.Len())}
	for _, w := range p.Workers {
		places := make([]int64, w.Vars)
		for _, m := range w.Mems {
			places[m.Dst] = m.Init
		}
		g.places = append(g.places, places)
	}
	for _, e := range p.Edges {
		g.way = append(g.way, append([]int64{}, e.Ahead...))
	}
	return g
}

// run: what goes out of the first worker, whoever is picked; false: some worker waits for ever.
func (g *gang) run(r *rand.Rand) ([][]int64, bool) {
	for {
		var l []int
		left := false
		for w, done := range g.instants {
			if g.can(w) {
				l = append(l, w)
			}
			left = left || done < len(g.rows)
		}
		if len(l) == 0 {
			return g.said, !left
		}
		g.do(l[r.Intn(len(l))])
	}
}

func (g *gang) can(w int) bool {
	for i, e := range g.Edges {
		if e.To == w && len(g.way[i]) == 0 {
			return false
		}
	}
	return g.instants[w] < len(g.rows)
}

// do: an instant of a worker.
func (g *gang) do(w int) {
	u, places := g.Workers[w], g.places[w]
	if w == 0 {
		for i, place := range u.Ins {
			places[place] = g.rows[g.instants[w]][i]
		}
	}
	g.take(w)
	for _, i := range u.Order {
		if q := u.Eqs[i]; there(places, q.On) {
			var l []int64
			for _, a := range q.Args {
				l = append(l, of(places, a))
			}
			places[q.Dst] = value.Apply(q.Op, l...)
		}
	}
	g.put(w)
	for _, m := range u.Mems {
		if there(places, m.On) {
			places[m.Dst] = of(places, m.Next)
		}
	}
	g.instants[w]++
}

// take what has come to a worker.
func (g *gang) take(w int) {
	for i, e := range g.Edges {
		if e.To != w {
			continue
		}
		place := 0
		if u := g.Workers[w]; e.Arg {
			place = u.Ins[e.Port]
		} else {
			place = u.Waits[e.Port].Dst
		}
		g.places[w][place], g.way[i] = g.way[i][0], g.way[i][1:]
	}
}

// put what goes from a worker on its way.
func (g *gang) put(w int) {
	for i, e := range g.Edges {
		if e.From == w {
			g.way[i] = append(g.way[i], of(g.places[w], e.What))
		}
	}
	if w > 0 {
		return
	}
	var outs []int64
	for _, place := range g.Workers[0].Outs {
		outs = append(outs, g.places[0][place])
	}
	g.said = append(g.said, outs)
}

func there(places []int64, on []flat.Guard) bool {
	for _, g := range on {
		if (places[g.Var] == 0) != g.Off {
			return false
		}
	}
	return true
}

func of(places []int64, a flat.Atom) int64 {
	if a.Const {
		return a.N
	}
	return places[a.Var]
}
