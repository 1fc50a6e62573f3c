package balance_test

import (
	"math/rand"
	"strconv"
	"strings"
	"testing"

	"girandole/api"
	"girandole/balance"
	"girandole/lex"
)

// edge goes from one worker to another, with as many values ahead.
type edge struct{ from, to, ahead int }

// net is workers, the first node's ahead, and the edges between: what a program is meant to be split into.
type net struct {
	workers int
	edges   []edge
}

// awaiting: by chance some edges to a worker, for what comes of futures; what that awaits of them, and the futures.
func (n *net) awaiting(r *rand.Rand, w int) (string, []string) {
	sum := "1"
	var futures []string
	for range r.Intn(3) {
		e := edge{1 + r.Intn(n.workers-1), w, max(0, r.Intn(5)-1)}
		n.edges = append(n.edges, e)
		sum += " + await p" + strconv.Itoa(len(futures))
		if e.ahead > 0 {
			sum += " after (7" + strings.Repeat(", 8", e.ahead-1) + ")"
		}
		futures = append(futures, "u"+strconv.Itoa(e.from))
	}
	return sum, futures
}

// netBy: one by chance, and a program of it. Each node takes the futures that it awaits; the first one's are its own.
func netBy(r *rand.Rand) (*net, string) {
	n := &net{workers: 2 + r.Intn(7)}
	y, own := n.awaiting(r, 0)
	for i, u := range own {
		y = strings.Replace(y, "p"+strconv.Itoa(i), u, 1)
	}
	vars, eqs, nodes := "", "y = "+y+";", ""
	for w := 1; w < n.workers; w++ {
		b, kids := n.awaiting(r, w)
		var ins []string
		for i := range kids {
			ins = append(ins, "p"+strconv.Itoa(i)+": future int")
		}
		if r.Intn(3) == 0 {
			n.edges = append(n.edges, edge{0, w, 0})
			ins, kids = append(ins, "a: int"), append(kids, "x")
		}
		at := strconv.Itoa(w)
		vars += "u" + at + ": future int; "
		eqs += " u" + at + " = async n" + at + "(" + strings.Join(kids, ", ") + ");"
		nodes += " node n" + at + "(" + strings.Join(ins, ", ") + ") returns (b: int) let b = " + b + "; tel"
	}
	return n, "node f(x: int) returns (y: int) var " + vars + "let " + eqs + " tel" + nodes
}

func (n *net) rooms() int {
	rooms := 0
	for _, e := range n.edges {
		rooms += e.ahead + 1
	}
	return rooms
}

// ends: do all workers come to their end, each of which goes on where a value is in each edge to it, and room in
// each from it?
func (n *net) ends() bool {
	way := make([]int, len(n.edges))
	for i, e := range n.edges {
		way[i] = e.ahead
	}
	left := make([]int, n.workers)
	for w := range left {
		left[w] = 20
	}
	for goes := true; goes; {
		goes = false
		for w := range left {
			if left[w] > 0 && n.step(w, way) {
				left[w]--
				goes = true
			}
		}
	}
	for _, more := range left {
		if more > 0 {
			return false
		}
	}
	return true
}

// step: an instant of a worker, if it can go on.
func (n *net) step(w int, way []int) bool {
	for i, e := range n.edges {
		if e.to == w && way[i] == 0 || e.from == w && e.to != w && way[i] > e.ahead {
			return false
		}
	}
	for i, e := range n.edges {
		if e.to == w {
			way[i]--
		}
		if e.from == w {
			way[i]++
		}
	}
	return true
}

// TestByChance: Check tells a fault just where workers, with that room between, don't come to their end.
func TestByChance(t *testing.T) {
	r := rand.New(rand.NewSource(1))
	met := map[api.Errno]int{}
	for range 4000 {
		n, text := netBy(r)
		p := planOf(t, text)
		if got := balance.Rooms(p); got != n.rooms() {
			t.Fatalf("Rooms of %q = %d, want %d", text, got, n.rooms())
		}
		want := lex.Fault{}
		if !n.ends() {
			want = lex.Fault{At: len("node "), Err: api.ErrDelay}
		}
		if got := balance.Check(p); got != want {
			t.Fatalf("Check of %q: %+v, want %+v", text, got, want)
		}
		met[want.Err]++
	}
	if met[api.OK] < 1000 || met[api.ErrDelay] < 1000 {
		t.Errorf("errors were met as often as %v alone", met)
	}
}
