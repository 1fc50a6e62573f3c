// Package units is what the layers share that let a unit of layer 8 go on: a unit apart from others, and what
// stands at its places.
package units

import (
	"slices"

	"girandole/flat"
)

// Apart: a unit that shares no list with the one of which it is made.
func Apart(u *flat.Unit) *flat.Unit {
	c := *u
	c.Ins, c.Outs = slices.Clone(u.Ins), slices.Clone(u.Outs)
	c.Eqs, c.Mems = slices.Clone(u.Eqs), slices.Clone(u.Mems)
	c.Waits, c.Spawns = slices.Clone(u.Waits), slices.Clone(u.Spawns)
	for i, q := range c.Eqs {
		c.Eqs[i].Args, c.Eqs[i].On = slices.Clone(q.Args), slices.Clone(q.On)
	}
	for i, m := range c.Mems {
		c.Mems[i].On = slices.Clone(m.On)
	}
	for i, w := range c.Waits {
		c.Waits[i].Ahead = slices.Clone(w.Ahead)
	}
	for i, s := range c.Spawns {
		c.Spawns[i].Args, c.Spawns[i].Futures = slices.Clone(s.Args), slices.Clone(s.Futures)
	}
	return &c
}
