package flat_test

import (
	"reflect"
	"slices"
	"strings"
	"testing"

	"girandole/flat"
	"girandole/tree"
)

// TestArgumentsStay: what is handed in stays as it is, and what is answered is the same each time.
func TestArgumentsStay(t *testing.T) {
	for _, x := range says {
		l := programOf(t, withVars(x.vars, x.eqs))
		before := tree.Print(l...)
		u, v := unitOf(t, l, "f"), unitOf(t, l, "f")
		if after := tree.Print(l...); after != before {
			t.Errorf("afterwards the nodes are %s, before %s", after, before)
		}
		if !reflect.DeepEqual(u, v) {
			t.Errorf("of %q Flatten answers %v, and then %v", x.eqs, u, v)
		}
	}
}

// TestUnitStays: a unit doesn't change with the nodes of which it was made.
func TestUnitStays(t *testing.T) {
	for _, x := range says {
		text := withVars(x.vars, x.eqs)
		l := programOf(t, text)
		u := unitOf(t, l, "f")
		for i := range l {
			for j := range l[i].Eqs {
				spoil(&l[i].Eqs[j].E)
				l[i].Eqs[j].Left[0].Name = "other"
			}
			clear(l[i].Ins)
			clear(l[i].Vars)
		}
		if want := unitOf(t, programOf(t, text), "f"); !reflect.DeepEqual(u, want) {
			t.Errorf("the unit of %q is now %v, want %v", x.eqs, u, want)
		}
	}
}

func spoil(e *tree.Expr) {
	for i := range e.Kids {
		spoil(&e.Kids[i])
	}
	*e = tree.Expr{Kind: tree.Int, N: 99, Kids: e.Kids}
}

// TestListsApart: no two lists of a unit share memory: each element is marked, and all marks are there at the end.
func TestListsApart(t *testing.T) {
	for _, x := range says {
		u := unitOf(t, programOf(t, withVars(x.vars, x.eqs)), "f")
		var marks []*int
		mark := func(place *int) {
			*place = len(marks)
			marks = append(marks, place)
		}
		guards := func(l []flat.Guard) {
			for i := range l {
				mark(&l[i].Var)
			}
			_ = append(l, flat.Guard{Var: -1}) // nor what lies behind one
		}
		atoms := func(l []flat.Atom) {
			for i := range l {
				mark(&l[i].Var)
			}
			_ = append(l, flat.Atom{Var: -1})
		}
		for _, q := range u.Eqs {
			atoms(q.Args)
			guards(q.On)
		}
		for _, m := range u.Mems {
			guards(m.On)
		}
		for _, s := range u.Spawns {
			atoms(s.Args)
			for i := range s.Futures {
				mark(&s.Futures[i].Param)
			}
		}
		for i, place := range marks {
			if *place != i {
				t.Fatalf("two lists in the unit of %q share memory", x.eqs)
			}
		}
	}
}

// TestOrigins: where a unit's futures come from, and what they have ahead, in the order in which they stand.
func TestOrigins(t *testing.T) {
	const text = "node first() returns () let tel node f(w: future int, x: int, v: future bool, c: bool) returns (y: int, z: bool) var s: future int; r: future int; " +
		"let r = async g(s, id(x), v); y = await w after (3, -4) + await r; z = await v after (true); s = async h(w, 5); tel\n" +
		"node g(a: future int, x: int, b: future bool) returns (y: int) let y = x; tel " +
		"node h(a: future int, x: int) returns (y: int) let y = x; tel node id(x: int) returns (y: int) let y = x; tel"
	u := unitOf(t, programOf(t, text), "f")
	if len(u.Ins) != 2 || len(u.Outs) != 2 || len(u.Waits) != 3 || len(u.Spawns) != 2 {
		t.Fatalf("the unit is %+v", u)
	}
	spawned := [...]flat.Origin{{Spawn: 0}, {Spawn: 1}}
	handed := [...]flat.Origin{{Spawn: -1, Param: 0}, {Spawn: -1, Param: 1}}
	for i, want := range []flat.Wait{
		{From: handed[0], Ahead: []int64{3, -4}, At: strings.Index(text, "await w")},
		{From: spawned[0], At: strings.Index(text, "await r")},
		{From: handed[1], Ahead: []int64{1}, At: strings.Index(text, "await v")},
	} {
		want.Dst = u.Waits[i].Dst
		if !reflect.DeepEqual(u.Waits[i], want) {
			t.Errorf("wait %d is %+v, want %+v", i, u.Waits[i], want)
		}
	}
	for i, want := range []flat.Spawn{
		{Node: "g", Args: u.Spawns[0].Args, Futures: []flat.Origin{spawned[1], handed[1]}, At: strings.Index(text, "g(s")},
		{Node: "h", Args: []flat.Atom{{Const: true, N: 5}}, Futures: []flat.Origin{handed[0]}, At: strings.Index(text, "h(w")},
	} {
		if !reflect.DeepEqual(u.Spawns[i], want) {
			t.Errorf("spawn %d is %+v, want %+v", i, u.Spawns[i], want)
		}
	}
}

// TestGuards: an equation has the guards of the clock on which its node is called, and then those of its own.
func TestGuards(t *testing.T) {
	const text = "node f(a: int, c: bool) returns (y: int) var k: int when not c; let y = 7 mod 5 + merge c (1) (k); k = g(a when not c, true) * 2; tel " +
		"node g(x: int, e: bool) returns (y: int) var m: int when e; let m = -(x when e); y = x - merge e (m) (0); tel"
	u := unitOf(t, programOf(t, text), "f")
	given, by := map[int]flat.Eq{}, map[string]flat.Eq{}
	for _, q := range u.Eqs {
		given[q.Dst], by[q.Op] = q, q
	}
	outer := flat.Guard{Var: u.Ins[1], Off: true}
	for op, want := range map[string][]flat.Guard{"mod": nil, "*": {outer}, "-": {outer}} {
		if !slices.Equal(by[op].On, want) {
			t.Errorf("%q has the guards %v, want %v", op, by[op].On, want)
		}
	}
	on := by["neg"].On
	if len(on) != 2 || on[0] != outer || on[1].Off {
		t.Fatalf("what is on e has the guards %v", on)
	}
	if e := given[on[1].Var]; !slices.Equal(e.Args, []flat.Atom{{Const: true, N: 1}}) {
		t.Errorf("what is on e hangs on what comes of %+v", e)
	}
}
