package cell_test

import (
	"reflect"
	"slices"
	"testing"

	"girandole/cell"
	"girandole/code"
)

// much: a program with all that a worker may have to do, of five instants, and what it says of these.
var (
	much     = withVars("u: future int; k: int when c; e: bool when c;", "u = async less(x, back(y)); e = k > 15; k = 5 -> pre k + (x when c); y = merge c (merge e (k when e) (-k when not e)) (await u after (1, 2) when not c);")
	muchRows = [][]int64{{10, 1}, {20, 0}, {30, 1}, {40, 0}, {50, 1}}
	muchSaid = []int64{-5, 2, 35, 15, 85}
)

// crew: cells of all workers of a program.
func crew(p *code.Program) []*cell.Cell {
	var l []*cell.Cell
	for worker := range p.Len() {
		l = append(l, cell.New(p, worker, len(muchRows)))
	}
	return l
}

// ends lets cells go on up to their end, and holds what they wrote against what they must.
func ends(t *testing.T, cells []*cell.Cell, n *net) {
	t.Helper()
	for range muchRows {
		for range cells {
			for _, c := range cells {
				goes(c, n)
			}
		}
	}
	if !slices.Equal(n.said[0], muchSaid) {
		t.Errorf("it says %v, want %v", n.said[0], muchSaid)
	}
}

// TestProgramStays: neither New nor Step changes it.
func TestProgramStays(t *testing.T) {
	p := lowered(t, much)
	ends(t, crew(p), netOf(p, muchRows))
	if want := lowered(t, much); !reflect.DeepEqual(p, want) {
		t.Errorf("the program is now %+v, want %+v", p, want)
	}
}

// spoil makes zeros of all that can be reached, but for what is hidden.
func spoil(v reflect.Value) {
	switch v.Kind() {
	case reflect.Pointer:
		spoil(v.Elem())
	case reflect.Struct:
		for i := range v.NumField() {
			spoil(v.Field(i))
		}
	case reflect.Slice:
		for i := range v.Len() {
			spoil(v.Index(i))
		}
	}
	if v.CanSet() {
		v.SetZero()
	}
}

// TestProgramGone: a cell doesn't change with the program of which it was made.
func TestProgramGone(t *testing.T) {
	p := lowered(t, much)
	cells := crew(p)
	spoil(reflect.ValueOf(p))
	if p.Len() != 0 {
		t.Fatalf("the program is still %+v", p)
	}
	ends(t, cells, netOf(lowered(t, much), muchRows))
}

// TestApart: of one program there may be many cells, each with instants of its own.
func TestApart(t *testing.T) {
	p := lowered(t, much)
	n, m := netOf(p, muchRows), netOf(p, muchRows)
	first, second := crew(p), crew(p)
	for i := range 20 {
		first[i%2].Step(n)
		second[0].Step(m)
	}
	ends(t, first, n)
	ends(t, second, m)
}

// TestZero: a cell that New didn't make has no instants.
func TestZero(t *testing.T) {
	c := new(cell.Cell)
	if got, want := stateOf(c), (state{true, 0, -1, false}); got != want || c.Step(&page{t: t}) != cell.Finished {
		t.Errorf("a zero cell tells %+v, want %+v", got, want)
	}
}
