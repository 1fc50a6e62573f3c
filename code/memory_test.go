package code_test

import (
	"reflect"
	"slices"
	"testing"

	"girandole/code"
)

// TestPlanStays: a plan isn't changed, and what is answered is the same each time.
func TestPlanStays(t *testing.T) {
	for _, x := range sound {
		text := withVars(x.vars, x.eqs)
		p := mustPlan(t, text)
		c, d := code.Lower(p), code.Lower(p)
		if !reflect.DeepEqual(c, d) || c.Long() != d.Long() {
			t.Errorf("of %q Lower answers %v, and then %v", x.eqs, c, d)
		}
		if !reflect.DeepEqual(p, mustPlan(t, text)) {
			t.Errorf("the plan of %q is now %v", x.eqs, p)
		}
	}
}

// places: where the units, and the elements of the lists stand that can be reached.
func places(v reflect.Value) []uintptr {
	var l []uintptr
	switch v.Kind() {
	case reflect.Pointer:
		l = append(places(v.Elem()), v.Pointer())
	case reflect.Struct:
		for i := range v.NumField() {
			l = append(l, places(v.Field(i))...)
		}
	case reflect.Slice:
		all := v.Slice(0, v.Cap()) // what stands behind the end may be written to by an append
		for i := range all.Len() {
			l = append(l, all.Index(i).Addr().Pointer())
		}
		for i := range v.Len() {
			l = append(l, places(v.Index(i))...)
		}
	}
	return l
}

// TestListsApart: no two lists of a program, of another one of the same plan, or of the plan, share memory.
func TestListsApart(t *testing.T) {
	for _, x := range sound {
		p := mustPlan(t, withVars(x.vars, x.eqs))
		c, d := code.Lower(p), code.Lower(p)
		all := slices.Concat(places(reflect.ValueOf(p)), places(reflect.ValueOf(c)), places(reflect.ValueOf(d)))
		slices.Sort(all)
		if some := slices.Compact(slices.Clone(all)); len(some) < len(all) {
			t.Errorf("of %q lists share %d places", x.eqs, len(all)-len(some))
		}
	}
}

// spoil makes zeros of all that can be reached, but for what is hidden.
func spoil(v reflect.Value) {
	switch v.Kind() {
	case reflect.Pointer:
		spoil(v.Elem())
	case reflect.Struct:
		for i := range v.NumField() {
			spoil(v.Field(i))
		}
	case reflect.Slice:
		for i := range v.Len() {
			spoil(v.Index(i))
		}
	}
	if v.CanSet() {
		v.SetZero()
	}
}

// TestPlanGone: a program doesn't change with the plan of which it was made.
func TestPlanGone(t *testing.T) {
	for _, x := range sound {
		text := withVars(x.vars, x.eqs)
		p := mustPlan(t, text)
		c := code.Lower(p)
		spoil(reflect.ValueOf(p))
		if p.Len() != 0 {
			t.Fatalf("the plan of %q is still %v", x.eqs, p)
		}
		if want := code.Lower(mustPlan(t, text)); !reflect.DeepEqual(c, want) {
			t.Errorf("the code of %q is now %v, want %v", x.eqs, c, want)
		}
	}
}
