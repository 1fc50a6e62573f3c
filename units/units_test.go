package units_test

import (
	"reflect"
	"slices"
	"testing"

	"girandole/flat"
	"girandole/units"
)

// at: what stands at a place.
func at(place int) flat.Atom {
	return flat.Atom{Var: place}
}

// all: a unit that has something of all that one may have.
func all() *flat.Unit {
	return &flat.Unit{
		Node: "f", At: 5, Vars: 6, Ins: []int{0}, Outs: []int{1, 2},
		Eqs: []flat.Eq{
			{Op: "+", Dst: 1, Args: []flat.Atom{at(0), {Const: true, N: 7}}},
			{Op: "copy", Dst: 2, Args: []flat.Atom{at(1)}, On: []flat.Guard{{Var: 0}, {Var: 3, Off: true}}},
		},
		Mems:   []flat.Mem{{Dst: 4, Init: 11, Next: at(3)}, {Dst: 3, Init: -2, Next: at(1), On: []flat.Guard{{Var: 0}}}},
		Waits:  []flat.Wait{{Dst: 5, Ahead: []int64{1, 2}, At: 3}},
		Spawns: []flat.Spawn{{Node: "g", Args: []flat.Atom{at(2)}, Futures: []flat.Origin{{Spawn: 0}}, At: 4}},
	}
}

func wants(t *testing.T, p units.Places, want ...int64) {
	t.Helper()
	if !slices.Equal(p, want) {
		t.Errorf("at the places stands %v, want %v", p, want)
	}
}

// TestPlacesOf: what is kept has its first value.
func TestPlacesOf(t *testing.T) {
	wants(t, units.PlacesOf(all()), 0, 0, 0, -2, 11, 0)
	wants(t, units.PlacesOf(&flat.Unit{}))
}

func TestOf(t *testing.T) {
	p := units.Places{3, 4}
	if p.Of(at(1)) != 4 || p.Of(flat.Atom{Const: true, N: -9, Var: 1}) != -9 || p.Of(flat.Atom{Const: true}) != 0 {
		t.Errorf("of %v Of answers others", p)
	}
}

// TestDo: an equation is done if each guard is as it must be, and only then.
func TestDo(t *testing.T) {
	u, p := all(), units.Places{0, 0, 0, 0, 0, 0}
	p.Do(u.Eqs[0])
	wants(t, p, 0, 7, 0, 0, 0, 0)
	p.Do(u.Eqs[1])
	wants(t, p, 0, 7, 0, 0, 0, 0)
	p[0], p[3] = 1, 1
	p.Do(u.Eqs[1])
	wants(t, p, 1, 7, 0, 1, 0, 0)
	p[3] = 0
	p.Do(u.Eqs[1])
	wants(t, p, 1, 7, 7, 0, 0, 0)
}

// TestKeep: one has what the other one had, though that goes on, too, if it is there.
func TestKeep(t *testing.T) {
	u, p := all(), units.Places{0, 8, 0, 3, 4, 0}
	p.Keep(u.Mems)
	wants(t, p, 0, 8, 0, 3, 3, 0)
	p[0] = 1
	p.Keep(u.Mems)
	wants(t, p, 1, 8, 0, 8, 3, 0)
	p.Keep(u.Mems)
	wants(t, p, 1, 8, 0, 8, 8, 0)
}

// TestApart: a unit is the same, and stays so when all lists of the other one are cleared.
func TestApart(t *testing.T) {
	u := all()
	own := units.Apart(u)
	for _, q := range u.Eqs {
		clear(q.Args)
		clear(q.On)
	}
	for _, m := range u.Mems {
		clear(m.On)
	}
	clear(u.Waits[0].Ahead)
	clear(u.Spawns[0].Args)
	clear(u.Spawns[0].Futures)
	clear(u.Eqs)
	clear(u.Mems)
	clear(u.Waits)
	clear(u.Spawns)
	clear(u.Ins)
	clear(u.Outs)
	*u = flat.Unit{}
	if !reflect.DeepEqual(own, all()) {
		t.Errorf("the unit is now %+v, want %+v", own, all())
	}
}
