package solo_test

import (
	"math/rand"
	"slices"
	"strconv"
	"strings"
	"testing"
)

// thing is a name of a node, its type, and its clock: guards, the outer ones first, as they are written.
type thing struct {
	name, kind string
	clock      []string
}

// things: those of each node, in an order in which each one hangs at once on those ahead of it alone.
var things = []thing{
	{"a", "int", nil}, {"c", "bool", nil},
	{"b", "bool", nil}, {"k", "int", []string{"not b"}},
	{"e", "bool", []string{"c"}}, {"l", "int", []string{"c", "not e"}}, {"m", "bool", []string{"c", "e"}}, {"n", "int", []string{"c", "e", "m"}},
	{"y", "int", nil}, {"z", "bool", nil},
}

// written: how a thing is declared.
func (x thing) written() string {
	s := x.name + ": " + x.kind
	if len(x.clock) > 0 {
		s += " when " + x.clock[len(x.clock)-1]
	}
	return s
}

// maker writes nodes by chance.
type maker struct {
	*rand.Rand
	called []string // nodes that may be called, of which an int, and a bool comes out
}

func (m maker) among(l ...string) string {
	return l[m.Intn(len(l))]
}

// node: of a name, out of which these go, with these of its own.
func (m maker) node(name string, outs, vars []thing, deep int) string {
	text := "node " + name + "(a: int, c: bool) returns ("
	for i, x := range outs {
		text += strings.Repeat(", ", min(i, 1)) + x.written()
	}
	text += ") var "
	own := slices.Concat(things[:2], vars, outs)
	var eqs []string
	for _, x := range vars {
		text += x.written() + "; "
	}
	for i, x := range own[2:] {
		eqs = append(eqs, x.name+" = "+m.expr(own, i+2, x.kind, x.clock, deep)+";")
	}
	if name == "f" && m.Intn(2) == 0 { // pair can't call itself
		eqs = eqs[:len(eqs)-2]
		eqs = append(eqs, "(y, z) = pair("+m.expr(own, len(own)-2, "int", nil, deep)+", "+m.expr(own, len(own)-2, "bool", nil, deep)+");")
	}
	m.Shuffle(len(eqs), func(i, j int) { eqs[i], eqs[j] = eqs[j], eqs[i] })
	return text + "let " + strings.Join(eqs, " ") + " tel\n"
}

// one: a name on a clock, of those that stand ahead.
func one(own []thing, ahead int, kind string, clock []string) []string {
	var l []string
	for _, x := range own[:ahead] {
		if x.kind == kind && slices.Equal(x.clock, clock) {
			l = append(l, x.name)
		}
	}
	return l
}

// expr: of a type, on a clock, that hangs at once on what stands ahead alone.
func (m maker) expr(own []thing, ahead int, kind string, clock []string, deep int) string {
	now := func(kind string) string { return m.expr(own, ahead, kind, clock, deep-1) }
	was := func() string { return m.expr(own, len(own), kind, clock, deep-1) }
	pick := m.Intn(13)
	if deep == 0 {
		pick = m.Intn(5)
	}
	names := one(own, ahead, kind, clock)
	switch {
	case pick == 0 || pick < 5 && len(names) == 0:
		return m.literal(kind)
	case pick < 5:
		return m.among(names...)
	case pick == 5:
		return "(if " + now("bool") + " then " + now(kind) + " else " + now(kind) + ")"
	case pick == 6:
		sign := map[string]string{"int": "-", "bool": "not "}[kind]
		return "(" + now(kind) + " -> " + m.among(now(kind), "pre "+was(), sign+"pre "+was()) + ")"
	case pick == 7:
		return "(" + m.literal(kind) + " fby " + was() + ")"
	case pick == 8 && len(m.called) > 0:
		return map[string]string{"int": m.among(m.called...), "bool": "so"}[kind] + "(" + now("int") + ", " + now("bool") + ")"
	case pick < 11 && len(clock) > 0:
		outer, guard := clock[:len(clock)-1], clock[len(clock)-1]
		e := "(" + m.expr(own, ahead, kind, outer, deep-1) + " when " + guard + ")"
		return m.among(e, "("+now(kind)+" -> pre "+e+")", "("+now(kind)+" -> (pre "+m.expr(own, len(own), kind, outer, deep-1)+") when "+guard+")")
	case pick < 11:
		if c := one(own, ahead, "bool", clock); len(c) > 0 {
			return m.merge(own, ahead, kind, clock, deep, m.among(c...))
		}
	}
	return m.sign(kind, now)
}

func (m maker) merge(own []thing, ahead int, kind string, clock []string, deep int, name string) string {
	on, off := append(slices.Clone(clock), name), append(slices.Clone(clock), "not "+name)
	return "merge " + name + " (" + m.expr(own, ahead, kind, on, deep-1) + ") (" + m.expr(own, ahead, kind, off, deep-1) + ")"
}

func (m maker) literal(kind string) string {
	if kind == "bool" {
		return m.among("true", "false")
	}
	return strconv.Itoa(m.Intn(40) - 9)
}

func (m maker) sign(kind string, now func(kind string) string) string {
	if kind == "int" {
		return m.among("(- "+now(kind)+")", "("+now(kind)+m.among(" + ", " - ", " * ")+now(kind)+")", "("+now(kind)+m.among(" / ", " mod ")+m.among("2", "3", "-3")+")")
	}
	return m.among("(not "+now(kind)+")", "("+now(kind)+m.among(" and ", " or ", " xor ", " = ")+now(kind)+")", "("+now("int")+m.among(" < ", " <> ", " >= ")+now("int")+")")
}

// program: nodes by chance, the first of which calls the others.
func program(r *rand.Rand) string {
	y, z := things[8:9], things[9:10]
	text := maker{r, nil}.node("sub", y, things[2:3], 2) + maker{r, nil}.node("so", z, things[2:4], 2)
	text += maker{r, []string{"sub"}}.node("low", y, things[4:7], 2) + maker{r, []string{"sub"}}.node("pair", things[8:], things[2:6], 2)
	return maker{r, []string{"sub", "low"}}.node("f", things[8:], things[2:8], 4) + text
}

// rowsBy: what comes in by chance; sometimes something is wanting.
func rowsBy(r *rand.Rand) [][]int64 {
	var l [][]int64
	for range 8 {
		row := []int64{int64(r.Intn(50) - 20), int64(r.Intn(2))}
		if r.Intn(20) == 0 {
			row[0] = least + int64(r.Intn(2))
		}
		l = append(l, row[:2-r.Intn(9)/8*r.Intn(3)])
	}
	return l
}

// TestByChance holds what Step answers against what the tree says.
func TestByChance(t *testing.T) {
	r := rand.New(rand.NewSource(1))
	for range 1500 {
		text, rows := program(r), rowsBy(r)
		l, _ := read(text)
		s := soloOf(t, text)
		for at, want := range sense(t, l, rows) {
			if got := s.Step(rows[at]...); !slices.Equal(got, want) {
				t.Fatalf("at instant %d of %v %q says %v, want %v", at, rows, text, got, want)
			}
		}
	}
}
