package mach_test

import (
	"math/rand"
	"slices"
	"strconv"
	"strings"
)

// thing is a name of a node, its type, and its clock: guards, the outer ones first, as they are written.
type thing struct {
	name, kind string
	clock      []string
}

// written: how a thing is declared.
func (x thing) written() string {
	s := x.name + ": " + x.kind
	if len(x.clock) > 0 {
		s += " when " + x.clock[len(x.clock)-1]
	}
	return s
}

// callee is a node that may be called by those that are made behind it; one that runs may have futures, and so
// may those that it calls.
type callee struct {
	name      string
	runs      bool
	ins, outs []thing
}

// maker writes nodes by chance, each of which calls those ahead of it alone.
type maker struct {
	*rand.Rand
	nodes []callee
	text  string
}

// body is what a node has that is made: its names, in an order in which each int or bool hangs at once on those
// ahead of it alone; may it have futures?
type body struct {
	*maker
	own  []thing
	runs bool
}

func (m *maker) among(l ...string) string {
	return l[m.Intn(len(l))]
}

func (m *maker) literal(kind string) string {
	if kind == "bool" {
		return m.among("true", "false")
	}
	return strconv.Itoa(m.Intn(40) - 9)
}

// program: some nodes, the first of which runs, and calls others.
func (m *maker) program() string {
	y, z := thing{"y", "int", nil}, thing{"z", "bool", nil}
	for i, outs := range [][]thing{{y}, {z}, {y, z}} {
		m.node("p"+strconv.Itoa(i), nil, outs, false, 2)
	}
	for i := range 2 + m.Intn(4) {
		outs := [][]thing{{y}, {y}, {z}, {y, z}}[m.Intn(4)]
		m.node("r"+strconv.Itoa(i), m.futures("w", "v"), outs, true, 2)
	}
	m.node("f", nil, []thing{y, z}, true, 3)
	return m.text
}

// futures of these names: each may be there, of an int, or of a bool.
func (m *maker) futures(names ...string) []thing {
	var l []thing
	for _, name := range names {
		if m.Intn(2) == 0 {
			l = append(l, thing{name, "future " + m.among("int", "int", "bool"), nil})
		}
	}
	return l
}

// node: the last one that is made stands first in the text.
func (m *maker) node(name string, handed, outs []thing, runs bool, deep int) {
	ins := append([]thing{{"a", "int", nil}, {"c", "bool", nil}}, handed...)
	m.Shuffle(len(ins), func(i, j int) { ins[i], ins[j] = ins[j], ins[i] })
	futures := 0
	if runs {
		futures = m.Intn(3) + deep - 2
	}
	vars := m.vars(futures)
	b := body{m, slices.Concat(ins, vars, outs), runs}
	eqs := b.equations(len(ins), len(outs), deep)
	text := "node " + name + "(" + list(ins, ", ", "") + ") returns (" + list(outs, ", ", "") + ")"
	if len(vars) > 0 {
		text += " var " + list(vars, " ", ";")
	}
	m.text = text + " let " + strings.Join(eqs, " ") + " tel\n" + m.text
	m.nodes = append(m.nodes, callee{name, runs, ins, outs})
}

func list(l []thing, between, behind string) string {
	var all []string
	for _, x := range l {
		all = append(all, x.written()+behind)
	}
	return strings.Join(all, between)
}

// vars: what a node declares for itself; names on clocks stand behind those that tell their clocks.
func (m *maker) vars(futures int) []thing {
	var l []thing
	for i := range futures {
		l = append(l, thing{"u" + strconv.Itoa(i), "future " + m.among("int", "int", "bool"), nil})
	}
	if m.Intn(2) == 0 {
		l = append(l, thing{"b", "bool", nil}, thing{"k", "int", []string{"not b"}})
	}
	if m.Intn(2) == 0 {
		l = append(l, thing{"e", "bool", []string{"c"}}, thing{"l", "int", []string{"c", "not e"}})
	}
	return l
}

// callees: the nodes that give so many things, the first of which is of that type, and that may be called here;
// there is a future for each that they ask.
func (b body) callees(kind string, outs int, runs bool) []callee {
	var l []callee
	for _, n := range b.nodes {
		if n.outs[0].kind == kind && len(n.outs) == outs && (runs || !n.runs) && b.has(n) {
			l = append(l, n)
		}
	}
	return l
}

// equation: what gives to the name of a place.
func (b body) equation(at, deep int) string {
	x := b.own[at]
	if kind, ok := strings.CutPrefix(x.kind, "future "); ok {
		l := b.callees(kind, 1, true)
		return x.name + " = async " + b.call(l[b.Intn(len(l))], len(b.own), nil, 1) + ";"
	}
	return x.name + " = " + b.expr(at, x.kind, x.clock, deep) + ";"
}

// equations of all names from a place on; those of two that go out are sometimes one.
func (b body) equations(from, outs, deep int) []string {
	var eqs []string
	for at := range b.own {
		if at >= from {
			eqs = append(eqs, b.equation(at, deep))
		}
	}
	y := len(b.own) - 2
	if l := b.callees("int", 2, b.runs); outs == 2 && len(l) > 0 && b.Intn(2) == 0 {
		eqs = append(eqs[:y-from], "(y, z) = "+b.call(l[b.Intn(len(l))], y, nil, deep)+";")
	}
	b.Shuffle(len(eqs), func(i, j int) { eqs[i], eqs[j] = eqs[j], eqs[i] })
	return eqs
}

// has: is there a future for each that a node asks?
func (b body) has(n callee) bool {
	for _, x := range n.ins {
		if strings.HasPrefix(x.kind, "future") && len(b.names(len(b.own), x.kind, nil)) == 0 {
			return false
		}
	}
	return true
}

// names on a clock, of those that stand ahead.
func (b body) names(ahead int, kind string, clock []string) []string {
	var l []string
	for _, x := range b.own[:ahead] {
		if x.kind == kind && slices.Equal(x.clock, clock) {
			l = append(l, x.name)
		}
	}
	return l
}

// call of a node.
func (b body) call(n callee, ahead int, clock []string, deep int) string {
	var kids []string
	for _, x := range n.ins {
		if strings.HasPrefix(x.kind, "future") {
			kids = append(kids, b.among(b.names(len(b.own), x.kind, nil)...))
		} else {
			kids = append(kids, b.expr(ahead, x.kind, clock, deep))
		}
	}
	return n.name + "(" + strings.Join(kids, ", ") + ")"
}

// expr: of a type, on a clock, that hangs at once on what stands ahead alone.
func (b body) expr(ahead int, kind string, clock []string, deep int) string {
	now := func(kind string) string { return b.expr(ahead, kind, clock, deep-1) }
	was := func() string { return b.expr(len(b.own), kind, clock, deep-1) }
	if deep == 0 {
		return b.leaf(ahead, kind, clock)
	}
	switch pick := b.Intn(12); {
	case pick == 0:
		return "(if " + now("bool") + " then " + now(kind) + " else " + now(kind) + ")"
	case pick == 1:
		return "(" + now(kind) + " -> " + b.among(now(kind), "pre "+was()) + ")"
	case pick == 2:
		return "(" + b.literal(kind) + " fby " + was() + ")"
	case pick < 5:
		if l := b.callees(kind, 1, b.runs && len(clock) == 0); len(l) > 0 {
			return b.call(l[b.Intn(len(l))], ahead, clock, deep-1)
		}
	case pick < 7 && len(clock) > 0:
		outer, guard := clock[:len(clock)-1], clock[len(clock)-1]
		return "(" + b.expr(ahead, kind, outer, deep-1) + " when " + guard + ")"
	case pick < 7:
		if c := b.names(ahead, "bool", clock); len(c) > 0 {
			return b.merge(ahead, kind, clock, deep, b.among(c...))
		}
	case pick < 9:
		return b.leaf(ahead, kind, clock)
	}
	return b.sign(kind, now)
}

// leaf: a literal, a name, or an await.
func (b body) leaf(ahead int, kind string, clock []string) string {
	futures, names := b.names(len(b.own), "future "+kind, nil), b.names(ahead, kind, clock)
	switch {
	case len(clock) == 0 && len(futures) > 0 && b.Intn(2) == 0:
		return "await " + b.among(futures...) + b.after(kind)
	case len(names) > 0 && b.Intn(5) > 0:
		return b.among(names...)
	}
	return b.literal(kind)
}

// after: the values ahead of an await's, mostly some.
func (b body) after(kind string) string {
	n := []int{0, 1, 1, 1, 2, 2, 3, 8}[b.Intn(8)]
	if n == 0 {
		return ""
	}
	var l []string
	for range n {
		l = append(l, b.literal(kind))
	}
	return " after (" + strings.Join(l, ", ") + ")"
}

func (b body) merge(ahead int, kind string, clock []string, deep int, name string) string {
	on, off := append(slices.Clone(clock), name), append(slices.Clone(clock), "not "+name)
	return "merge " + name + " (" + b.expr(ahead, kind, on, deep-1) + ") (" + b.expr(ahead, kind, off, deep-1) + ")"
}

func (b body) sign(kind string, now func(kind string) string) string {
	if kind == "int" {
		return b.among("(- "+now(kind)+")", "("+now(kind)+b.among(" + ", " - ", " * ")+now(kind)+")", "("+now(kind)+b.among(" / ", " mod ")+b.among("2", "-3")+")")
	}
	return b.among("(not "+now(kind)+")", "("+now(kind)+b.among(" and ", " or ", " xor ", " = ")+now(kind)+")", "("+now("int")+b.among(" < ", " <> ", " >= ")+now("int")+")")
}
