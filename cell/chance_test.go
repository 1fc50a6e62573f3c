package cell_test

import (
	"fmt"
	"math/rand"
	"slices"
	"strings"
	"testing"

	"girandole/api"
)

// maker writes programs by chance, whose first node has ints on some clocks, and so many futures.
type maker struct {
	*rand.Rand
	futures int
}

func (m maker) among(l ...string) string {
	return l[m.Intn(len(l))]
}

// clockOf: of each int of the first node the guards, the outer ones first.
var clockOf = map[string][]string{"y": nil, "k": {"c"}, "l": {"not c"}, "n": {"c", "e"}, "o": {"c", "not e"}}

// same: the int of the first node that is on a clock.
func same(clock []string) string {
	for name, c := range clockOf {
		if slices.Equal(c, clock) {
			return name
		}
	}
	return ""
}

// number: an int expression on a clock; names that are given stand behind delays alone.
func (m maker) number(clock []string, deep int) string {
	sub := func() string { return m.number(clock, m.Intn(deep)) }
	if deep == 0 {
		return m.leaf(clock)
	}
	switch m.Intn(10) {
	case 0, 1:
		return "(" + sub() + m.among(" + ", " - ", " * ") + sub() + ")"
	case 2:
		return "(" + sub() + m.among(" / 3", " mod -4") + ")"
	case 3:
		return "(if " + m.truth(clock, deep-1) + " then " + sub() + " else " + sub() + ")"
	case 4:
		return "(" + m.among("2", "-1", "6 fby 7") + " fby " + sub() + ")"
	case 5:
		return "(" + sub() + " -> pre " + m.among(same(clock), sub()) + ")"
	case 6:
		return m.among("sum", "back", "picks") + "(" + sub() + ")"
	case 7:
		if len(clock) > 0 {
			outer := clock[:len(clock)-1]
			return "(" + m.number(outer, m.Intn(deep)) + " when " + clock[len(clock)-1] + ")"
		}
		return "merge c (" + m.number([]string{"c"}, m.Intn(deep)) + ") (" + m.number([]string{"not c"}, m.Intn(deep)) + ")"
	}
	return m.leaf(clock)
}

func (m maker) leaf(clock []string) string {
	switch m.Intn(4) {
	case 0:
		return fmt.Sprint(m.Intn(40) - 9)
	case 1:
		return "(" + fmt.Sprint(m.Intn(9)) + " fby " + same(clock) + ")"
	case 2:
		if m.futures > 0 && len(clock) == 0 {
			return "await " + m.future() + m.after()
		}
	}
	e := "x"
	for _, g := range clock {
		e += " when " + g
	}
	return "(" + e + ")"
}

func (m maker) truth(clock []string, deep int) string {
	if deep <= 0 {
		return m.among("true", "false", "("+m.leaf(clock)+" > "+m.leaf(clock)+")")
	}
	return m.among("not "+m.truth(clock, deep-1), "("+m.truth(clock, deep-1)+m.among(" and ", " xor ")+m.truth(clock, 0)+")", "(true fby "+m.truth(clock, 0)+")")
}

func (m maker) future() string {
	return fmt.Sprint("u", m.Intn(m.futures))
}

// after: the values ahead of an await's, mostly some.
func (m maker) after() string {
	return m.among("", " after (0)", " after (5)", " after (1, -2)", " after (9, 8, 7)")
}

func (m maker) program() string {
	vars := "e: bool when c; k: int when c; l: int when not c; n: int when e; o: int when not e;"
	eqs := []string{
		"y = merge c (k) (l) + " + m.number(nil, 4) + ";",
		"k = merge e (n) (o) - " + m.number(clockOf["k"], 3) + ";",
		"l = " + m.number(clockOf["l"], 3) + ";",
		"n = " + m.number(clockOf["n"], 3) + ";",
		"o = " + m.number(clockOf["o"], 3) + ";",
		"e = " + m.truth(clockOf["k"], 2) + ";",
	}
	for i := range m.futures {
		vars += fmt.Sprint(" u", i, ": future int;")
		run := m.among("sum("+m.number(nil, 2)+")", "less("+m.number(nil, 2)+", "+m.number(nil, 2)+")", "count()", "late("+m.future()+")", "ring("+m.number(nil, 1)+", "+m.future()+")")
		eqs = append(eqs, fmt.Sprint("u", i, " = async ", run, ";"))
	}
	m.Shuffle(len(eqs), func(i, j int) { eqs[i], eqs[j] = eqs[j], eqs[i] })
	return withVars(vars, strings.Join(eqs, " "))
}

// rows: what comes in by chance.
func (m maker) rows() [][]int64 {
	var l [][]int64
	for range m.Intn(12) {
		l = append(l, []int64{int64(m.Intn(60) - 30), int64(m.Intn(2))})
	}
	return l
}

// TestByChance: programs of one worker say what layer 11 says; each worker of others does, with what comes by edges.
func TestByChance(t *testing.T) {
	r := rand.New(rand.NewSource(1))
	whole := [4]int{}
	for i := range 1600 {
		m := maker{r, i % len(whole)}
		text := m.program()
		p, f := codeOf(text)
		if f.Err != api.OK {
			if f.Err != api.ErrDelay {
				t.Fatalf("%q: %+v", text, f)
			}
			continue
		}
		whole[m.futures]++
		if m.futures == 0 {
			says(t, text, m.rows())
		}
		for worker := range p.Len() {
			holds(t, r, p, worker, r.Intn(12), r.Intn(8))
		}
	}
	if slices.Min(whole[:]) < 100 {
		t.Errorf("of 400 each so many programs are whole: %v", whole)
	}
}
