package code_test

import (
	"math/rand"
	"strconv"
	"strings"
	"testing"

	"girandole/api"
)

// maker writes programs by chance: the nodes n1, n2, .. run by themselves, each as the future u1, u2, .. of the
// first node, that hands futures over to them, too.
type maker struct {
	*rand.Rand
	nodes int
}

func (m *maker) among(l ...string) string {
	return l[m.Intn(len(l))]
}

// expr: over names that are ints, and such as are futures of them; c is a truth.
func (m *maker) expr(levels int, names, futures []string) string {
	if levels == 0 {
		return m.leaf(names, futures)
	}
	below := func() string { return m.expr(m.Intn(levels), names, futures) }
	switch m.Intn(9) {
	case 0, 1:
		return "(" + below() + m.among(" + ", " - ", " * ") + below() + ")"
	case 2:
		return "(if c then " + below() + " else " + below() + ")"
	case 3:
		return "(" + strconv.Itoa(m.Intn(9)) + " fby " + below() + ")"
	case 4:
		return "(" + below() + " -> pre " + below() + ")"
	case 5:
		return "merge c (" + m.among(names...) + " when c) (3 fby (" + m.among(names...) + " when not c))"
	case 6:
		return m.among("on", "g", "same") + "(" + below() + ")"
	case 7:
		return "(" + below() + " / 3)"
	}
	return m.leaf(names, futures)
}

func (m *maker) leaf(names, futures []string) string {
	if len(futures) == 0 || m.Intn(2) == 0 {
		return m.among(m.among(names...), strconv.Itoa(m.Intn(9)))
	}
	w := m.among(futures...)
	if m.Intn(6) == 0 {
		return "late(" + w + ")"
	}
	return "await " + w + m.after()
}

// after: the values ahead of an await's, mostly some.
func (m *maker) after() string {
	n := m.Intn(5)
	if n == 0 {
		return ""
	}
	var l []string
	for range n {
		l = append(l, strconv.Itoa(m.Intn(99)))
	}
	return " after (" + strings.Join(l, ", ") + ")"
}

// program: one that may still have a fault.
func (m *maker) program() string {
	m.nodes = 1 + m.Intn(5)
	var own []string
	for i := range m.nodes {
		own = append(own, "u"+strconv.Itoa(i+1))
	}
	vars, eqs, nodes := "", "y = "+m.expr(3, []string{"x"}, own)+";", ""
	for i, u := range own {
		node := "n" + strconv.Itoa(i+1)
		kids, ins, futures := []string{"c"}, []string{"c: bool"}, []string(nil)
		names := []string{"(2 fby b)"}
		for j := range m.Intn(3) {
			p := "p" + strconv.Itoa(j)
			kids, ins, futures = append(kids, m.among(own...)), append(ins, p+": future int"), append(futures, p)
		}
		for j := range m.Intn(3) {
			a := "a" + strconv.Itoa(j)
			kids, ins, names = append(kids, m.expr(2, []string{"x"}, own)), append(ins, a+": int"), append(names, a)
		}
		vars += u + ": future int; "
		eqs += " " + u + " = async " + node + "(" + strings.Join(kids, ", ") + ");"
		nodes += " node " + node + "(" + strings.Join(ins, ", ") + ") returns (b: int) let b = " + m.expr(3, names, futures) + "; tel"
	}
	return withVars(vars, eqs) + nodes
}

func (m *maker) rows() [][]int64 {
	var l [][]int64
	for range 1 + m.Intn(12) {
		l = append(l, []int64{int64(m.Intn(99) - 49), int64(m.Intn(2))})
	}
	return l
}

// TestByChance: what the code of programs by chance says, whoever is picked, is what they say; nobody waits for ever.
func TestByChance(t *testing.T) {
	m := &maker{Rand: rand.New(rand.NewSource(1))}
	met := map[api.Errno]int{}
	for range 2000 {
		text := m.program()
		_, f := planOf(text)
		met[f.Err]++
		if f.Err == api.OK {
			rows := m.rows()
			says(t, m.Rand, text, rows, sense(t, text, rows))
		}
	}
	if met[api.OK] < 800 {
		t.Errorf("errors were met as often as %v: too few programs are whole", met)
	}
}
