package split_test

import (
	"fmt"
	"slices"
	"strings"
	"testing"

	"girandole/api"
	"girandole/clocks"
	"girandole/inits"
	"girandole/lex"
	"girandole/names"
	"girandole/parse"
	"girandole/split"
	"girandole/tree"
	"girandole/types"
)

// read: the nodes of a text, if all of them is there in time.
func read(text string) ([]tree.Node, lex.Fault) {
	l, f := parse.Program(text)
	for _, check := range []func(l []tree.Node) lex.Fault{names.Check, types.Check, clocks.Check, inits.Check} {
		if f == (lex.Fault{}) {
			f = check(l)
		}
	}
	return l, f
}

func programOf(t *testing.T, text string) []tree.Node {
	t.Helper()
	l, f := read(text)
	if f != (lex.Fault{}) {
		t.Fatalf("%q: %+v; want no fault below", text, f)
	}
	return l
}

// planOf: that of a text, if it is whole.
func planOf(t *testing.T, text string) *split.Plan {
	t.Helper()
	l := programOf(t, text)
	p, f := split.Split(l)
	if f != (lex.Fault{}) || p == nil {
		t.Fatalf("Split(%q) = %v, %+v, want a plan", text, p, f)
	}
	if why := wrong(p, l[0]); why != "" {
		t.Fatalf("Split(%q) %s", text, why)
	}
	return p
}

// refused: a program has a fault at the mark "|" in its text, also where something stands ahead of it.
func refused(t *testing.T, marked string, err api.Errno) {
	t.Helper()
	if strings.Count(marked, "|") != 1 {
		t.Fatalf("%q has not just one mark", marked)
	}
	for _, marked := range [...]string{marked, "-- ahead\n" + marked} {
		text := strings.Replace(marked, "|", "", 1)
		p, f := split.Split(programOf(t, text))
		if want := (lex.Fault{At: strings.Index(marked, "|"), Err: err}); p != nil || f != want {
			t.Errorf("Split(%q) = %v, %+v, want %+v", text, p, f, want)
		}
	}
}

// wrong: why a plan can't be one whose first worker is a node's: its numbers don't fit, or not just one edge
// comes to what a worker is handed, or awaits.
func wrong(p *split.Plan, first tree.Node) string {
	if p.Len() == 0 || p.Len() != len(p.Workers) || p.Workers[0].Node != first.Name || p.At != first.At {
		return "doesn't begin with the first node's worker"
	}
	if d := p.Depths(); len(d) != len(p.Edges) || !slices.IsSorted(d) {
		return "has no row of depths"
	}
	come := map[string]int{}
	for _, e := range p.Edges {
		if min(e.From, e.To) < 0 || max(e.From, e.To) >= p.Len() || e.Arg && len(e.Ahead) > 0 {
			return "has an edge that goes nowhere, or a call's with values ahead"
		}
		come[fmt.Sprint(e.To, e.Arg, e.Port)]++
	}
	ports := 0
	for i, w := range p.Workers {
		if o := slices.Sorted(slices.Values(w.Order)); len(o) != len(w.Eqs) || len(o) > 0 && (o[0] != 0 || o[len(o)-1] != len(o)-1) {
			return "has a worker without an order of its equations"
		}
		for port := range w.Ins {
			if i > 0 && come[fmt.Sprint(i, true, port)] != 1 {
				return "has not just one edge to what a worker is handed"
			}
		}
		for port := range w.Waits {
			if come[fmt.Sprint(i, false, port)] != 1 {
				return "has not just one edge to what a worker awaits"
			}
		}
		ports += len(w.Ins) + len(w.Waits)
	}
	if ports-len(p.Workers[0].Ins) != len(p.Edges) {
		return "has edges to nothing"
	}
	return ""
}

// crewOf: the nodes of a plan's workers, sorted.
func crewOf(p *split.Plan) []string {
	var l []string
	for _, w := range p.Workers {
		l = append(l, w.Node)
	}
	slices.Sort(l)
	return l
}

// edgesOf: a plan's edges as texts, sorted: between workers of which nodes, for what, with which values ahead.
func edgesOf(p *split.Plan) []string {
	var l []string
	for _, e := range p.Edges {
		l = append(l, edgeText(p.Workers[e.From].Node, p.Workers[e.To].Node, e.Arg, e.Ahead))
	}
	slices.Sort(l)
	return l
}

func edgeText(from, to string, arg bool, ahead []int64) string {
	if arg {
		return from + " calls " + to
	}
	return strings.Join(append([]string{from, "comes to", to}, words(ahead)...), " ")
}

func words(l []int64) []string {
	var w []string
	for _, n := range l {
		w = append(w, fmt.Sprint(n))
	}
	return w
}
