package flat_test

import (
	"testing"

	"girandole/flat"
	"girandole/tree"
)

// worker runs a unit by what stands in it alone, at one instant after the other: which places have their value
// at this one, what its first Out was so far, and which workers it has for its spawns.
type worker struct {
	u     *flat.Unit
	vars  []int64
	has   []bool
	done  []bool // equations
	said  []int64
	below []*worker
	from  *worker // nil: it is the first
	spawn int     // which one of that
}

// workersOf: the one of a node, behind it all that come of its spawns.
func workersOf(t *testing.T, l []tree.Node, name string) []*worker {
	t.Helper()
	u := unitOf(t, l, name)
	w := &worker{u: u, vars: make([]int64, u.Vars), has: make([]bool, u.Vars), done: make([]bool, len(u.Eqs))}
	all := []*worker{w}
	for _, m := range u.Mems {
		w.vars[m.Dst] = m.Init
	}
	for i, s := range u.Spawns {
		below := workersOf(t, l, s.Node)
		below[0].from, below[0].spawn = w, i
		w.below = append(w.below, below[0])
		all = append(all, below...)
	}
	return all
}

// apply: what an op does.
func apply(op string, l ...int64) int64 {
	is := map[bool]int64{true: 1}
	switch op {
	case "copy":
		return l[0]
	case "neg":
		return -l[0]
	case "not":
		return 1 - l[0]
	case "if":
		if l[0] != 0 {
			return l[1]
		}
		return l[2]
	}
	switch x, y := l[0], l[1]; op {
	case "+":
		return x + y
	case "-":
		return x - y
	case "*":
		return x * y
	case "/":
		return x / y
	case "mod":
		return x % y
	case "and":
		return x & y
	case "or":
		return x | y
	case "xor", "<>":
		return is[x != y]
	case "=":
		return is[x == y]
	case "<":
		return is[x < y]
	case "<=":
		return is[x <= y]
	case ">":
		return is[x > y]
	case ">=":
		return is[x >= y]
	}
	panic("there is no op " + op)
}

// say gives to a place, once at an instant.
func (w *worker) say(place int, v int64) {
	if w.has[place] {
		panic("two give to one place")
	}
	w.vars[place], w.has[place] = v, true
}

// known: have these their values, and have all guards?
func (w *worker) known(l []flat.Atom, on []flat.Guard) bool {
	for _, a := range l {
		if !a.Const && !w.has[a.Var] {
			return false
		}
	}
	for _, g := range on {
		if !w.has[g.Var] {
			return false
		}
	}
	return true
}

func (w *worker) value(a flat.Atom) int64 {
	if a.Const {
		return a.N
	}
	return w.vars[a.Var]
}

// there: are all guards as they must be?
func (w *worker) there(on []flat.Guard) bool {
	for _, g := range on {
		if (w.vars[g.Var] == 0) != g.Off {
			return false
		}
	}
	return true
}

// source: the worker from which a future comes.
func (w *worker) source(o flat.Origin) *worker {
	if o.Spawn >= 0 {
		return w.below[o.Spawn]
	}
	return w.from.source(w.from.u.Spawns[w.spawn].Futures[o.Param])
}

// begin: an instant, at which that comes in to the first worker.
func (w *worker) begin(row []int64) {
	clear(w.has)
	clear(w.done)
	for _, m := range w.u.Mems {
		w.has[m.Dst] = true
	}
	if w.from == nil {
		for i, place := range w.u.Ins {
			w.say(place, row[i])
		}
	}
}

// goOn does what can be done at this instant: was there anything?
func (w *worker) goOn() bool {
	before := w.left()
	if w.from != nil {
		for i, a := range w.from.u.Spawns[w.spawn].Args {
			if place := w.u.Ins[i]; !w.has[place] && w.from.known([]flat.Atom{a}, nil) {
				w.say(place, w.from.value(a))
			}
		}
	}
	for _, wait := range w.u.Waits {
		from, now := w.source(wait.From), len(w.said)
		switch back := len(wait.Ahead); {
		case w.has[wait.Dst]:
		case now < back:
			w.say(wait.Dst, wait.Ahead[now])
		case now-back < len(from.said):
			w.say(wait.Dst, from.said[now-back])
		case back == 0 && from.has[from.u.Outs[0]]:
			w.say(wait.Dst, from.vars[from.u.Outs[0]])
		}
	}
	for i, q := range w.u.Eqs {
		if !w.done[i] && w.known(q.Args, q.On) {
			w.do(q)
			w.done[i] = true
		}
	}
	return w.left() < before
}

// do an equation: what isn't there may be anything.
func (w *worker) do(q flat.Eq) {
	if !w.there(q.On) {
		w.say(q.Dst, 99)
		return
	}
	var l []int64
	for _, a := range q.Args {
		l = append(l, w.value(a))
	}
	w.say(q.Dst, apply(q.Op, l...))
}

// left: how many places have no value yet.
func (w *worker) left() int {
	n := 0
	for _, has := range w.has {
		if !has {
			n++
		}
	}
	return n
}

// end: of an instant; mems are set one behind the other.
func (w *worker) end() {
	if len(w.u.Outs) > 0 {
		w.said = append(w.said, w.vars[w.u.Outs[0]])
	}
	for _, m := range w.u.Mems {
		if w.there(m.On) {
			w.vars[m.Dst] = w.value(m.Next)
		}
	}
}

// run: what the node of a name says of rows, instant by instant; false: some place never has its value.
func run(t *testing.T, l []tree.Node, name string, rows [][]int64) ([][]int64, bool) {
	t.Helper()
	all := workersOf(t, l, name)
	var said [][]int64
	for _, row := range rows {
		for _, w := range all {
			w.begin(row)
		}
		for goes := true; goes; {
			goes = false
			for _, w := range all {
				goes = w.goOn() || goes
			}
		}
		for _, w := range all {
			if w.left() > 0 {
				return nil, false
			}
		}
		var outs []int64
		for _, place := range all[0].u.Outs {
			outs = append(outs, all[0].vars[place])
		}
		said = append(said, outs)
		for _, w := range all {
			w.end()
		}
	}
	return said, true
}
