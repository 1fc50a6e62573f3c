package code_test

import (
	"fmt"
	"math/rand"
	"slices"

	"girandole/code"
	"girandole/flat"
	"girandole/value"
)

// troupe runs a program by its code alone: workers go on instruction by instruction, as they are picked; edges
// hold no more values than they have room for.
type troupe struct {
	*code.Program
	rows, said [][]int64 // what comes in, instant by instant; what was written, port by port
	places     [][]int64 // of each worker
	at         []int     // the next instruction of each
	instants   []int     // that each has done
	way        [][]int64 // of each edge the values on it
	steps      int
}

func troupeOf(c *code.Program, rows [][]int64) *troupe {
	p := &troupe{Program: c, rows: rows, said: make([][]int64, c.Out), at: make([]int, c.Len()), instants: make([]int, c.Len())}
	for _, w := range c.Workers {
		places := make([]int64, w.Vars)
		for _, m := range w.Mems {
			places[m.Dst] = m.Init
		}
		p.places = append(p.places, places)
	}
	for _, e := range c.Edges {
		p.way = append(p.way, slices.Clone(e.Ahead))
	}
	return p
}

// run to the end, by the one that choose picks of those that can go on; why it doesn't come to a right one.
func (p *troupe) run(choose func(can []int) int) string {
	for {
		var can []int
		for w := range p.at {
			if p.can(w) {
				can = append(can, w)
			}
		}
		if len(can) == 0 {
			return p.end()
		}
		p.step(choose(can))
	}
}

func (p *troupe) end() string {
	for i, n := range p.instants {
		if n < len(p.rows) {
			return fmt.Sprintf("leaves the worker %d waiting at instant %d", i, n)
		}
	}
	for i, e := range p.Edges {
		if len(p.way[i]) != len(e.Ahead) {
			return fmt.Sprintf("ends with %d values on the edge %d, want %d", len(p.way[i]), i, len(e.Ahead))
		}
	}
	if most := p.Len() * p.Long() * len(p.rows); p.steps > most {
		return fmt.Sprintf("took %d steps, at most %d are allowed", p.steps, most)
	}
	return ""
}

func (p *troupe) can(w int) bool {
	if p.instants[w] == len(p.rows) {
		return false
	}
	switch in := p.Workers[w].Ins[p.at[w]]; in.Kind {
	case code.Recv:
		return len(p.way[in.N]) > 0
	case code.Send:
		return len(p.way[in.N]) < p.Edges[in.N].Room
	}
	return true
}

// step: the next instruction of a worker that can go on.
func (p *troupe) step(w int) {
	p.do(w, p.Workers[w].Ins[p.at[w]])
	p.steps++
	if p.at[w]++; p.at[w] == len(p.Workers[w].Ins) {
		p.at[w] = 0
		p.instants[w]++
	}
}

func (p *troupe) do(w int, in code.Ins) {
	u, places := p.Workers[w].Unit, p.places[w]
	switch in.Kind {
	case code.Read:
		places[in.Dst] = p.rows[p.instants[w]][in.N]
	case code.Recv:
		places[in.Dst], p.way[in.N] = p.way[in.N][0], p.way[in.N][1:]
	case code.Do:
		if q := u.Eqs[in.N]; there(places, q.On) {
			var l []int64
			for _, a := range q.Args {
				l = append(l, of(places, a))
			}
			places[q.Dst] = value.Apply(q.Op, l...)
		}
	case code.Send:
		p.way[in.N] = append(p.way[in.N], of(places, in.What))
	case code.Write:
		p.said[in.N] = append(p.said[in.N], of(places, in.What))
	case code.Keep:
		for _, m := range u.Mems {
			if there(places, m.On) {
				places[m.Dst] = of(places, m.Next)
			}
		}
	}
}

func there(places []int64, on []flat.Guard) bool {
	for _, g := range on {
		if (places[g.Var] == 0) != g.Off {
			return false
		}
	}
	return true
}

func of(places []int64, a flat.Atom) int64 {
	if a.Const {
		return a.N
	}
	return places[a.Var]
}

// choices: in which ways one may be picked: by chance; the first, or the last one, as long as it can go on; in turn.
func choices(r *rand.Rand) []func(can []int) int {
	turn := -1
	return []func(can []int) int{
		func(can []int) int { return can[r.Intn(len(can))] },
		func(can []int) int { return can[0] },
		func(can []int) int { return can[len(can)-1] },
		func(can []int) int {
			i, _ := slices.BinarySearch(can, turn+1)
			turn = can[i%len(can)]
			return turn
		},
	}
}
