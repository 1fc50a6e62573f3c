package units

import (
	"girandole/flat"
	"girandole/value"
)

// Places is what stands at each place of a unit.
type Places []int64

// PlacesOf: a unit's, ahead of the first instant.
func PlacesOf(u *flat.Unit) Places {
	p := make(Places, u.Vars)
	for _, m := range u.Mems {
		p[m.Dst] = m.Init
	}
	return p
}

// Of: what an atom is now.
func (p Places) Of(a flat.Atom) int64 {
	if a.Const {
		return a.N
	}
	return p[a.Var]
}

// Do: an equation, if it is there.
func (p Places) Do(q flat.Eq) {
	if !p.there(q.On) {
		return
	}
	var l []int64
	for _, a := range q.Args {
		l = append(l, p.Of(a))
	}
	p[q.Dst] = value.Apply(q.Op, l...)
}

// Keep: what the next instant is told of this one. One is set behind the other: layer 8 has put each ahead of
// those that it takes from.
func (p Places) Keep(mems []flat.Mem) {
	for _, m := range mems {
		if p.there(m.On) {
			p[m.Dst] = p.Of(m.Next)
		}
	}
}

// there: are all guards as they must be? One that isn't there itself is as it was when it last was: it doesn't
// matter, as one ahead of it isn't as it must be then.
func (p Places) there(on []flat.Guard) bool {
	for _, g := range on {
		if (p[g.Var] == 0) != g.Off {
			return false
		}
	}
	return true
}
