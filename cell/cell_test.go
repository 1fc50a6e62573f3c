package cell_test

import (
	"slices"
	"testing"

	"girandole/cell"
	"girandole/code"
)

// net is around all workers of a program: edges hold what they have room for.
type net struct {
	*code.Program
	rows, way, said [][]int64
}

func netOf(p *code.Program, rows [][]int64) *net {
	n := &net{Program: p, rows: rows, said: make([][]int64, p.Out)}
	for _, e := range p.Edges {
		n.way = append(n.way, slices.Clone(e.Ahead))
	}
	return n
}

func (n *net) Recv(edge int) (int64, bool) {
	if len(n.way[edge]) == 0 {
		return 99, false
	}
	v := n.way[edge][0]
	n.way[edge] = n.way[edge][1:]
	return v, true
}

func (n *net) Send(edge int, v int64) bool {
	if len(n.way[edge]) == n.Edges[edge].Room {
		return false
	}
	n.way[edge] = append(n.way[edge], v)
	return true
}

func (n *net) Read(instant, port int) int64 {
	return n.rows[instant][port]
}

func (n *net) Write(port int, v int64) {
	n.said[port] = append(n.said[port], v)
}

// goes lets a cell go on as far as it can: what the last step came to.
func goes(c *cell.Cell, p cell.Ports) int {
	for {
		if s := c.Step(p); s != cell.Stepped {
			return s
		}
	}
}

// one: the edge of a program that goes from a worker to a worker.
func one(t *testing.T, p *code.Program, from, to int) int {
	t.Helper()
	i := slices.IndexFunc(p.Edges, func(e code.Edge) bool { return e.From == from && e.To == to })
	if i < 0 {
		t.Fatalf("no edge goes from %d to %d", from, to)
	}
	return i
}

func TestKinds(t *testing.T) {
	if got := [...]int{cell.Stepped, cell.Blocked, cell.Finished}; got != [...]int{1, 2, 3} {
		t.Errorf("Stepped, Blocked, Finished are %v", got)
	}
}

// TestEdges: a worker waits for what an edge hasn't, and for what it has no room for, and goes on behind that.
func TestEdges(t *testing.T) {
	p := lowered(t, withVars("u: future int;", "u = async sum(x); y = await u after (7);"))
	n := netOf(p, nil)
	to, from := one(t, p, 0, 1), one(t, p, 1, 0)
	c := cell.New(p, 1, 3)
	told := func(step, instants, edge int, put bool) {
		t.Helper()
		if got := goes(c, n); got != step {
			t.Errorf("Step answers %d, want %d", got, step)
		}
		if got, want := stateOf(c), (state{step == cell.Finished, instants, edge, put}); got != want {
			t.Errorf("the cell tells %+v, want %+v", got, want)
		}
	}
	told(cell.Blocked, 0, to, false)
	told(cell.Blocked, 0, to, false)
	n.way[to] = []int64{5, 6} // from is full behind one value: 7 stands there
	told(cell.Blocked, 1, from, true)
	told(cell.Blocked, 1, from, true)
	if got := n.way[from]; !slices.Equal(got, []int64{7, 5}) || len(n.way[to]) != 0 {
		t.Errorf("the edges hold %v", n.way)
	}
	n.Recv(from)
	told(cell.Blocked, 2, to, false)
	n.Recv(from)
	n.way[to] = []int64{-20, 30}
	told(cell.Finished, 3, -1, false)
	if got := n.way[from]; !slices.Equal(got, []int64{11, -9}) || !slices.Equal(n.way[to], []int64{30}) {
		t.Errorf("the edges hold %v", n.way)
	}
}

// TestTogether: all workers of a program, one behind the other as far as each comes, from either end.
func TestTogether(t *testing.T) {
	rows := [][]int64{{10, 1}, {20, 0}, {30, 1}, {40, 0}, {50, 1}}
	for _, x := range []struct {
		vars, eqs string
		want      []int64
	}{
		{"", "y = 0 -> pre y + x;", []int64{0, 20, 50, 90, 140}},
		{"u: future int;", "u = async more(x); y = await u after (0);", []int64{0, 11, 21, 31, 41}},
		{"u: future int;", "u = async less(x, 1 fby x); y = await u after (7, 8);", []int64{7, 8, 9, 10, 10}},
		{"u: future int;", "u = async ring(x, u); y = await u after (-1);", []int64{-1, 10, 17, 20, 23}},
		{"u: future int; v: future int;", "u = async late(v); v = async count(); y = await u;", []int64{10, 2, 4, 6, 8}},
		{"u: future int;", "u = async more(5 fby x); y = await u after (0);", []int64{0, 6, 11, 21, 31}},
		{"", "y = on(on(x));", []int64{3, 4, 12, 22, 32}},
	} {
		p := lowered(t, withVars(x.vars, x.eqs))
		for _, back := range []bool{false, true} {
			n := netOf(p, rows)
			var cells []*cell.Cell
			for worker := range p.Len() {
				cells = append(cells, cell.New(p, worker, len(rows)))
			}
			if back {
				slices.Reverse(cells)
			}
			for range p.Len() * p.Long() * len(rows) {
				for _, c := range cells {
					goes(c, n)
				}
			}
			if !slices.Equal(n.said[0], x.want) {
				t.Errorf("%q says %v, want %v", x.eqs, n.said[0], x.want)
			}
			for _, c := range cells {
				if got, want := stateOf(c), (state{true, len(rows), -1, false}); got != want {
					t.Errorf("of %q a worker tells %+v, want %+v", x.eqs, got, want)
				}
			}
		}
	}
}

// TestNoInstants: there is nothing to do.
func TestNoInstants(t *testing.T) {
	for _, x := range sound {
		p := lowered(t, withVars(x.vars, x.eqs))
		for worker := range p.Len() {
			c := cell.New(p, worker, 0)
			if got, want := stateOf(c), (state{true, 0, -1, false}); got != want {
				t.Errorf("of %q the worker %d tells %+v, want %+v", x.eqs, worker, got, want)
			}
			if got := c.Step(&page{t: t}); got != cell.Finished {
				t.Errorf("of %q the worker %d answers %d", x.eqs, worker, got)
			}
		}
	}
}

// TestMostInstants: as many as there may be.
func TestMostInstants(t *testing.T) {
	const most = 1000
	rows, want := [][]int64{}, [][]int64{}
	for i := range int64(most) {
		rows, want = append(rows, []int64{i, i % 2}), append(want, []int64{i * (i + 1) / 2})
	}
	tells(t, withVars("", "y = sum(x);"), rows, want)
}

// TestNew: ahead of the first instant nothing is done, however often that is asked.
func TestNew(t *testing.T) {
	for _, x := range sound {
		p := lowered(t, withVars(x.vars, x.eqs))
		for worker := range p.Len() {
			c := cell.New(p, worker, 1)
			first := stateOf(c)
			if first.done || first.instants != 0 {
				t.Errorf("of %q the worker %d tells %+v at first", x.eqs, worker, first)
			}
			for range 3 {
				if got := stateOf(c); got != first {
					t.Errorf("of %q the worker %d tells %+v behind %+v", x.eqs, worker, got, first)
				}
			}
		}
	}
}
