package split_test

import (
	"reflect"
	"slices"
	"testing"

	"girandole/split"
	"girandole/tree"
)

// TestArgumentsStay: what is handed in stays as it is, and what is answered is the same each time.
func TestArgumentsStay(t *testing.T) {
	for _, x := range plans {
		text := withVars(x.vars, x.eqs)
		l := programOf(t, text)
		p, _ := split.Split(l)
		q, _ := split.Split(l)
		if !reflect.DeepEqual(p, q) {
			t.Errorf("of %q Split answers %v, and then %v", x.eqs, p, q)
		}
		if !reflect.DeepEqual(l, programOf(t, text)) {
			t.Errorf("afterwards the nodes are %s, before %s", tree.Print(l...), text)
		}
	}
}

// TestPlanStays: a plan doesn't change with the nodes of which it was made, or with what it answers.
func TestPlanStays(t *testing.T) {
	for _, x := range plans {
		text := withVars(x.vars, x.eqs)
		l := programOf(t, text)
		p, _ := split.Split(l)
		for i := range l {
			for j := range l[i].Eqs {
				spoil(&l[i].Eqs[j].E)
			}
			clear(l[i].Ins)
			clear(l[i].Vars)
			clear(l[i].Eqs)
		}
		clear(l)
		d := p.Depths()
		for i := range d {
			d[i] = -1
		}
		if want := planOf(t, text); !reflect.DeepEqual(p, want) || !slices.Equal(p.Depths(), want.Depths()) {
			t.Errorf("the plan of %q is now %v, want %v", x.eqs, p, want)
		}
	}
}

func spoil(e *tree.Expr) {
	for i := range e.Kids {
		spoil(&e.Kids[i])
	}
	*e = tree.Expr{Kind: tree.Int, N: 99, Kids: e.Kids}
}

// places: where the units, and the elements of the lists stand that can be reached.
func places(v reflect.Value) []uintptr {
	var l []uintptr
	switch v.Kind() {
	case reflect.Pointer:
		l = append(places(v.Elem()), v.Pointer())
	case reflect.Struct:
		for i := range v.NumField() {
			l = append(l, places(v.Field(i))...)
		}
	case reflect.Slice:
		all := v.Slice(0, v.Cap()) // what stands behind the end may be written to by an append
		for i := range all.Len() {
			l = append(l, all.Index(i).Addr().Pointer())
		}
		for i := range v.Len() {
			l = append(l, places(v.Index(i))...)
		}
	}
	return l
}

// TestListsApart: no two lists of a plan, or of two plans, share memory.
func TestListsApart(t *testing.T) {
	for _, x := range plans {
		l := programOf(t, withVars(x.vars, x.eqs))
		p, _ := split.Split(l)
		q, _ := split.Split(l)
		all := append(places(reflect.ValueOf(p)), places(reflect.ValueOf(q))...)
		slices.Sort(all)
		if some := slices.Compact(slices.Clone(all)); len(some) < len(all) {
			t.Errorf("of %q lists share %d places", x.eqs, len(all)-len(some))
		}
	}
}
