package runner

import (
	"girandole/cell"
	"girandole/code"
)

// around is what workers have around them: of each edge a channel; the rows that come in; what was written, port
// by port. Nothing here needs a lock: the edges stay, and rows and what was written are the first node's worker's
// alone.
type around struct {
	edges      []chan int64
	rows, said [][]int64
}

// aroundOf: ahead of the first instant.
func aroundOf(p *code.Program, rows [][]int64) *around {
	a := &around{rows: rows, said: make([][]int64, p.Out)}
	for _, e := range p.Edges {
		a.edges = append(a.edges, edgeOf(e))
	}
	return a
}

// edgeOf: a channel of an edge's room, in which the values ahead stand.
func edgeOf(e code.Edge) chan int64 {
	edge := make(chan int64, e.Room)
	for _, v := range e.Ahead {
		edge <- v
	}
	return edge
}

// goOn lets a worker go on up to its end.
func (a *around) goOn(c *cell.Cell) {
	for !c.Done() {
		c.Step(a)
	}
}

// Recv waits till there is a value, so that the answer is never false.
func (a *around) Recv(edge int) (int64, bool) {
	return <-a.edges[edge], true
}

// Send waits till there is room, likewise.
func (a *around) Send(edge int, v int64) bool {
	a.edges[edge] <- v
	return true
}

// Read: what is wanting in a row is 0.
func (a *around) Read(instant, port int) int64 {
	if row := a.rows[instant]; port < len(row) {
		return row[port]
	}
	return 0
}

func (a *around) Write(port int, v int64) {
	a.said[port] = append(a.said[port], v)
}
