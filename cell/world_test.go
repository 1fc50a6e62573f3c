package cell_test

import (
	"cmp"
	"fmt"
	"math/rand"
	"slices"
	"testing"

	"girandole/cell"
	"girandole/code"
	"girandole/solo"
)

// ask is what a worker asks: which of the calls, of which edge or port, at which instant (Read), and the value
// that is sent, written, or answered.
type ask struct {
	call       string
	n, instant int
	v          int64
}

// world is around a worker: it answers by chance, refuses so many of ten, and notes what it is asked.
type world struct {
	*rand.Rand
	shy     int
	asks    []ask
	refused bool
}

func (w *world) Recv(edge int) (int64, bool) {
	v := w.number()
	w.refused = w.Intn(10) < w.shy
	if w.refused {
		w.asks = append(w.asks, ask{call: "recv", n: edge})
		return v, false // a value that must not be taken
	}
	w.asks = append(w.asks, ask{call: "recv", n: edge, v: v})
	return v, true
}

func (w *world) Send(edge int, v int64) bool {
	w.asks = append(w.asks, ask{call: "send", n: edge, v: v})
	w.refused = w.Intn(10) < w.shy
	return !w.refused
}

func (w *world) Read(instant, port int) int64 {
	v := w.number()
	w.asks = append(w.asks, ask{call: "read", n: port, instant: instant, v: v})
	return v
}

func (w *world) Write(port int, v int64) {
	w.asks = append(w.asks, ask{call: "write", n: port, v: v})
}

// number: often a truth.
func (w *world) number() int64 {
	if w.Intn(2) == 0 {
		return int64(w.Intn(2))
	}
	return int64(w.Uint64()) >> w.Intn(64)
}

// state is what a cell tells of itself.
type state struct {
	done     bool
	instants int
	edge     int
	put      bool
}

func stateOf(c *cell.Cell) state {
	edge, put := c.Wants()
	return state{c.Done(), c.Instants(), edge, put}
}

// wantsOf: as Wants must tell it, of what was then asked.
func wantsOf(asks []ask) (int, bool) {
	if len(asks) == 1 && (asks[0].call == "recv" || asks[0].call == "send") {
		return asks[0].n, asks[0].call == "send"
	}
	return -1, false
}

// again: is what is asked now what was refused? Of what is taken the value may be another one.
func again(held, asks []ask) bool {
	if len(asks) != 1 || asks[0].call != held[0].call || asks[0].n != held[0].n {
		return false
	}
	return asks[0].call == "recv" || asks[0].v == held[0].v
}

// goOn lets a cell that isn't done take a step; what it asked, if that was done, and why it can't be right.
func (w *world) goOn(c *cell.Cell) ([]ask, string) {
	before, held := stateOf(c), []ask(nil)
	if w.refused {
		held = w.asks
	}
	w.asks, w.refused = nil, false
	got, want := c.Step(w), cell.Stepped
	after, asks := stateOf(c), slices.Clone(w.asks)
	if w.refused {
		want = cell.Blocked
		if after != before {
			return nil, fmt.Sprintf("blocked it goes from %+v to %+v", before, after)
		}
		asks = nil
	}
	edge, put := wantsOf(w.asks)
	switch {
	case got != want:
		return nil, fmt.Sprintf("Step answers %d, want %d", got, want)
	case len(w.asks) > 1:
		return nil, fmt.Sprintf("one step asks %+v", w.asks)
	case before.edge != edge || before.put != put || before.done:
		return nil, fmt.Sprintf("%+v is told ahead of %+v", before, w.asks)
	case held != nil && !again(held, w.asks):
		return nil, fmt.Sprintf("%+v was refused, and %+v comes behind it", held, w.asks)
	}
	return asks, ""
}

// runs lets a cell go on up to its end: what it asked, instant by instant.
func (w *world) runs(t *testing.T, c *cell.Cell, instants int) [][]ask {
	t.Helper()
	told := make([][]ask, instants)
	for steps := 0; !c.Done(); steps++ {
		at := c.Instants()
		asks, why := w.goOn(c)
		if why != "" {
			t.Fatalf("at instant %d %s", at, why)
		}
		if now := c.Instants(); now != at && now != at+1 || at >= instants || steps > 1000000 {
			t.Fatalf("from %d of %d instants a step goes to %d", at, instants, now)
		}
		told[at] = append(told[at], asks...)
	}
	w.asks, w.refused = nil, false
	for range 3 {
		if got := c.Step(w); got != cell.Finished || len(w.asks) > 0 {
			t.Fatalf("behind the end Step answers %d, and asks %+v", got, w.asks)
		}
		if got, want := stateOf(c), (state{true, instants, -1, false}); got != want {
			t.Fatalf("behind the end it tells %+v, want %+v", got, want)
		}
	}
	return told
}

// due: what a worker must ask at an instant, sorted, without values.
func due(p *code.Program, worker, instant int) []ask {
	var l []ask
	for i, e := range p.Edges {
		if e.To == worker {
			l = append(l, ask{call: "recv", n: i})
		}
		if e.From == worker {
			l = append(l, ask{call: "send", n: i})
		}
	}
	if worker == 0 {
		for i := range p.In {
			l = append(l, ask{call: "read", n: i, instant: instant})
		}
		for i := range p.Out {
			l = append(l, ask{call: "write", n: i})
		}
	}
	return sorted(l)
}

func sorted(l []ask) []ask {
	var all []ask
	for _, a := range l {
		a.v = 0
		all = append(all, a)
	}
	slices.SortFunc(all, func(a, b ask) int {
		return cmp.Or(cmp.Compare(a.call, b.call), cmp.Compare(a.n, b.n))
	})
	return all
}

// alone: a worker's unit as layer 11 has it: what a worker reads and takes comes in, what it gives and writes
// goes out, each in the order of its row.
func alone(p *code.Program, worker int) (*solo.Solo, []code.Ins) {
	w := p.Workers[worker]
	u := *w.Unit
	u.Ins, u.Outs = nil, nil
	var gives []code.Ins
	for _, in := range w.Ins {
		switch in.Kind {
		case code.Read, code.Recv:
			u.Ins = append(u.Ins, in.Dst)
		case code.Send, code.Write:
			u.Outs = append(u.Outs, in.What.Var)
			gives = append(gives, in)
		}
	}
	return solo.New(&u, w.Plan), gives
}

// holds what a worker asks against what it must ask, and what it gives and writes against layer 11.
func holds(t *testing.T, r *rand.Rand, p *code.Program, worker, instants, shy int) {
	t.Helper()
	w := &world{Rand: r, shy: shy}
	told := w.runs(t, cell.New(p, worker, instants), instants)
	s, gives := alone(p, worker)
	for i, asks := range told {
		if got, want := sorted(asks), due(p, worker, i); !slices.Equal(got, want) {
			t.Fatalf("at instant %d the worker %d asks %+v, want %+v", i, worker, got, want)
		}
		var in, out, want []int64
		for _, a := range asks {
			if a.call == "read" || a.call == "recv" {
				in = append(in, a.v)
			} else {
				out = append(out, a.v)
			}
		}
		for k, v := range s.Step(in...) {
			if gives[k].What.Const {
				v = gives[k].What.N
			}
			want = append(want, v)
		}
		if !slices.Equal(out, want) {
			t.Fatalf("at instant %d, of %v, the worker %d gives %v, want %v", i, in, worker, out, want)
		}
	}
}

// sound: programs of one worker, and of more.
var sound = [...]struct{ vars, eqs string }{
	{"", "y = x;"},
	{"", "y = 7;"},
	{"", "y = (0 -> pre y) + sum(x) * picks(x);"},
	{"k: int when c; e: bool when c;", "k = 4 fby (x when c) + k; e = k > 2; y = merge c (merge e (k when e) (sum(x when c when not e))) (0 -> pre (x when not c));"},
	{"e: bool;", "(y, e) = both(back(x), c);"},
	{"u: future int;", "u = async count(); y = x;"},
	{"u: future int;", "u = async more(7); y = await u after (0);"},
	{"u: future int;", "y = await u + 2 * await u - await u after (8, 9); u = async count();"},
	{"u: future int; v: future int;", "v = async less(y, 1 fby x); u = async less(x, sum(y)); y = await u after (0) - await v after (1, -2, 3, -4, 5, -6, 7, -8);"},
	{"u: future int; v: future int;", "u = async ring(1, v); v = async ring(x, u); y = await u after (5);"},
	{"u: future int;", "u = async deaf(u, x); y = await u after (0) + on(on(x));"},
	{"u: future int; v: future int;", "u = async late(v); v = async count(); y = await u + late(u);"},
}

// TestAsks: each worker asks all that it must at each instant, one thing a step, and again what was refused.
func TestAsks(t *testing.T) {
	r := rand.New(rand.NewSource(1))
	for _, x := range sound {
		p := lowered(t, withVars(x.vars, x.eqs))
		for worker := range p.Len() {
			for shy := range 10 {
				holds(t, r, p, worker, shy*3, shy)
			}
		}
	}
}
