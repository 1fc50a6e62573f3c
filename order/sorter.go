package order

import "girandole/flat"

// state is how far one has come with an equation.
type state int

const (
	untouched state = iota
	begun
	done
)

// sorter puts equations into order, each behind all that it reads.
type sorter struct {
	eqs    []flat.Eq
	gives  map[int]int
	states []state
	order  []int
	ring   bool
}

// put one into the order, if it isn't there yet. To come to one that is begun is to come round to it: it stands
// behind itself.
func (s *sorter) put(at int) {
	s.ring = s.ring || s.states[at] == begun
	if s.states[at] != untouched {
		return
	}
	s.states[at] = begun
	for _, place := range reads(s.eqs[at]) {
		if giver, ok := s.gives[place]; ok {
			s.put(giver)
		}
	}
	s.states[at] = done
	s.order = append(s.order, at)
}

// reads: the places of which an equation has to know what they are.
func reads(q flat.Eq) []int {
	var l []int
	for _, g := range q.On {
		l = append(l, g.Var)
	}
	for _, a := range q.Args {
		if !a.Const {
			l = append(l, a.Var)
		}
	}
	return l
}
