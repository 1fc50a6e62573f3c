package solo_test

import (
	"reflect"
	"slices"
	"testing"

	"girandole/flat"
	"girandole/lex"
	"girandole/order"
	"girandole/solo"
)

// much: a program with all that a unit without futures may have.
const much = "node f(a: int, c: bool) returns (x: int, y: int, z: bool) var k: int when c; e: bool when not c; l: int when e; " +
	"let x = 1 -> 2 fby a; y = merge c (k) (merge e (l) (-a when not c when not e)); z = merge c (true) (e); " +
	"k = sum(a when c); e = false fby not e; l = 0 -> pre l + 5; tel" + library

// muchRows, muchSaid: what comes in, and what it says of that.
var (
	muchRows = [][]int64{{1, 1}, {2, 0}, {3, 0}, {4, 1}, {5, 0}, {6, 0}, {7, 1}}
	muchSaid = [][]int64{{1, 1, 1}, {1, -2, 0}, {2, 0, 1}, {3, 5, 1}, {4, -5, 0}, {5, 5, 1}, {6, 12, 1}}
)

func TestMuch(t *testing.T) {
	tells(t, much, muchRows, muchSaid)
}

// TestArgumentsStay: neither New nor Step changes what it is handed.
func TestArgumentsStay(t *testing.T) {
	u, o := ordered(t, much)
	wantUnit, wantOrder := ordered(t, much)
	s := solo.New(u, o)
	for _, row := range muchRows {
		in := append(slices.Clone(row), 11, 12, 13)
		s.Step(in[:len(row)-1]...)
		s.Step(in[:len(row)]...)
		s.Step(in...)
		if !slices.Equal(in, append(slices.Clone(row), 11, 12, 13)) {
			t.Errorf("what came in is now %v", in)
		}
	}
	if !reflect.DeepEqual(u, wantUnit) || !slices.Equal(o, wantOrder) {
		t.Errorf("the unit is now %v, %v, want %v, %v", u, o, wantUnit, wantOrder)
	}
}

// spoil makes other numbers of all that a unit has.
func spoil(u *flat.Unit) {
	for _, q := range u.Eqs {
		clear(q.Args)
		clear(q.On)
	}
	for _, m := range u.Mems {
		clear(m.On)
	}
	clear(u.Eqs)
	clear(u.Mems)
	clear(u.Ins)
	clear(u.Outs)
	*u = flat.Unit{}
}

// TestUnitGone: neither the unit, nor its order, nor what came in is kept.
func TestUnitGone(t *testing.T) {
	u, o := ordered(t, much)
	s := solo.New(u, o)
	spoil(u)
	clear(o)
	for i, row := range muchRows {
		in := slices.Clone(row)
		got := s.Step(in...)
		clear(in)
		if !slices.Equal(got, muchSaid[i]) {
			t.Errorf("at instant %d Step answers %v, want %v", i, got, muchSaid[i])
		}
	}
}

// TestApart: of one unit there may be some, each with instants of its own.
func TestApart(t *testing.T) {
	u, o := ordered(t, much)
	var l []*solo.Solo
	for i, row := range muchRows {
		l = append(l, solo.New(u, o))
		for j, s := range l[:i] {
			if got, want := s.Step(muchRows[i-1-j]...), muchSaid[i-1-j]; !slices.Equal(got, want) {
				t.Errorf("ahead of row %v: the one begun at %d answers %v, want %v", row, j, got, want)
			}
		}
	}
}

// TestAnswersStay: what Step answers doesn't change any more, and may be changed.
func TestAnswersStay(t *testing.T) {
	s, spoiled := soloOf(t, much), soloOf(t, much)
	var l [][]int64
	for i, row := range muchRows {
		l = append(l, s.Step(row...))
		got := spoiled.Step(row...)
		if !slices.Equal(got, muchSaid[i]) {
			t.Errorf("at instant %d Step answers %v, want %v", i, got, muchSaid[i])
		}
		for k := range got {
			got[k] = 99
		}
		_ = append(got, 99)
	}
	if !slices.EqualFunc(l, muchSaid, slices.Equal) {
		t.Errorf("the answers are now %v, want %v", l, muchSaid)
	}
}

// TestAnyOrder: how the equations stood in the unit doesn't matter, as long as the order is theirs.
func TestAnyOrder(t *testing.T) {
	u, _ := ordered(t, much)
	slices.Reverse(u.Eqs)
	o, f := order.Sort(u)
	if f != (lex.Fault{}) {
		t.Fatalf("Sort: %+v", f)
	}
	s := solo.New(u, o)
	for i, row := range muchRows {
		if got := s.Step(row...); !slices.Equal(got, muchSaid[i]) {
			t.Errorf("at instant %d Step answers %v, want %v", i, got, muchSaid[i])
		}
	}
}
