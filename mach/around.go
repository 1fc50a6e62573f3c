package mach

import (
	"girandole/code"
	"girandole/queue"
)

// around is what workers have around them: of each edge a queue; what comes in, instant by instant; what was
// written, port by port.
type around struct {
	edges      []*queue.Queue
	rows, said [][]int64
}

// aroundOf: ahead of the first instant.
func aroundOf(p *code.Program, rows [][]int64) around {
	a := around{said: make([][]int64, p.Out)}
	for _, e := range p.Edges {
		a.edges = append(a.edges, queue.New(e.Room, e.Ahead...))
	}
	for _, row := range rows {
		a.rows = append(a.rows, fitted(row, p.In))
	}
	return a
}

// fitted: a row of so many numbers, of which those that are wanting are 0.
func fitted(row []int64, ports int) []int64 {
	l := make([]int64, ports)
	copy(l, row)
	return l
}

// ready: would an edge take a value (put), or give one?
func (a *around) ready(edge int, put bool) bool {
	q := a.edges[edge]
	if put {
		return q.Len() < q.Room()
	}
	return q.Len() > 0
}

// ports is how workers ask what is around them. It is a type of its own, so that a machine, which has what is
// around embedded, doesn't have these calls: none but its workers may put a value in, or take one out.
type ports struct {
	*around
}

func (p ports) Recv(edge int) (int64, bool) {
	return p.edges[edge].Take()
}

func (p ports) Send(edge int, v int64) bool {
	return p.edges[edge].Put(v)
}

func (p ports) Read(instant, port int) int64 {
	return p.rows[instant][port]
}

func (p ports) Write(port int, v int64) {
	p.said[port] = append(p.said[port], v)
}
