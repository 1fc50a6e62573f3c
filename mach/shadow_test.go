package mach_test

import (
	"fmt"
	"slices"
	"testing"

	"girandole/code"
	"girandole/mach"
)

// shadow counts, without any value, what a machine must come to by the rows of its workers.
type shadow struct {
	*code.Program
	rows     int
	at       []int // the next instruction of each worker
	instants []int // that each has done
	way      []int // of each edge the values on it
	written  []int // of each port
	steps    int
}

func shadowOf(p *code.Program, rows int) *shadow {
	s := &shadow{Program: p, rows: rows, at: make([]int, p.Len()), instants: make([]int, p.Len()), written: make([]int, p.Out)}
	for _, e := range p.Edges {
		s.way = append(s.way, len(e.Ahead))
	}
	return s
}

func (s *shadow) can(w int) bool {
	if w < 0 || w >= s.Len() || s.instants[w] == s.rows {
		return false
	}
	switch in := s.Workers[w].Ins[s.at[w]]; in.Kind {
	case code.Recv:
		return s.way[in.N] > 0
	case code.Send:
		return s.way[in.N] <= len(s.Edges[in.N].Ahead)
	}
	return true
}

// some: those that can go on.
func (s *shadow) some() []int {
	var l []int
	for w := range s.Len() {
		if s.can(w) {
			l = append(l, w)
		}
	}
	return l
}

func (s *shadow) done() bool {
	return !slices.ContainsFunc(s.instants, func(n int) bool { return n < s.rows })
}

func (s *shadow) pick(w int) bool {
	if !s.can(w) {
		return false
	}
	switch in := s.Workers[w].Ins[s.at[w]]; in.Kind {
	case code.Recv:
		s.way[in.N]--
	case code.Send:
		s.way[in.N]++
	case code.Write:
		s.written[in.N]++
	}
	s.steps++
	if s.at[w]++; s.at[w] == len(s.Workers[w].Ins) {
		s.at[w] = 0
		s.instants[w]++
	}
	return true
}

func (s *shadow) waiting() int {
	n := 0
	for _, k := range s.way {
		n += k
	}
	return n
}

// room of all edges, and the values that stand ahead at first.
func (s *shadow) room() (room, ahead int) {
	for _, e := range s.Edges {
		room, ahead = room+len(e.Ahead)+1, ahead+len(e.Ahead)
	}
	return room, ahead
}

// most: so many true Picks there may be.
func (s *shadow) most() int {
	return s.Len() * s.Long() * s.rows
}

// wrong: why a machine can't be right, if the program says that.
func (s *shadow) wrong(m *mach.Machine, says [][]int64) string {
	for w := -1; w <= s.Len(); w++ {
		instants := 0
		if w >= 0 && w < s.Len() {
			instants = s.instants[w]
		}
		if got, want := m.Can(w), s.can(w); got != want || m.Instants(w) != instants {
			return fmt.Sprintf("tells Can %v, Instants %d of the worker %d, want %v, %d", got, m.Instants(w), w, want, instants)
		}
	}
	if m.Done() != s.done() || m.Steps() != s.steps || m.Waiting() != s.waiting() {
		return fmt.Sprintf("tells Done %v, Steps %d, Waiting %d, want %v, %d, %d", m.Done(), m.Steps(), m.Waiting(), s.done(), s.steps, s.waiting())
	}
	for port := -1; port <= s.Out; port++ {
		var want []int64
		if port >= 0 && port < s.Out {
			want = says[port][:s.written[port]]
		}
		if got := m.Out(port); !slices.Equal(got, want) {
			return fmt.Sprintf("has written %v at the port %d, want %v", got, port, want)
		}
	}
	return s.outside(m)
}

// outside: what the promises rule out, whatever the rows are.
func (s *shadow) outside(m *mach.Machine) string {
	room, ahead := s.room()
	switch {
	case m.Waiting() < 0 || m.Waiting() > room:
		return fmt.Sprintf("has %d values on their way, with room for %d", m.Waiting(), room)
	case m.Done() && m.Waiting() != ahead:
		return fmt.Sprintf("ends with %d values on their way, of %d ahead", m.Waiting(), ahead)
	case !m.Done() && len(s.some()) == 0:
		return "isn't done, but none can go on"
	case m.Steps() > s.most():
		return fmt.Sprintf("took %d steps, of at most %d", m.Steps(), s.most())
	}
	return ""
}

// both picks a worker of a machine, and of its shadow.
func both(t *testing.T, m *mach.Machine, s *shadow, w int) {
	t.Helper()
	if got, want := m.Pick(w), s.pick(w); got != want {
		t.Fatalf("behind %d steps Pick(%d) answers %v, want %v", m.Steps(), w, got, want)
	}
}

// right holds all that a machine tells against its shadow, and what the program says.
func right(t *testing.T, m *mach.Machine, s *shadow, says [][]int64) {
	t.Helper()
	if why := s.wrong(m, says); why != "" {
		t.Fatalf("behind %d steps a machine %s", m.Steps(), why)
	}
}
