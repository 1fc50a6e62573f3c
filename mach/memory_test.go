package mach_test

import (
	"reflect"
	"slices"
	"testing"

	"girandole/mach"
)

// much: a program with all that workers may have to do, and what it says of soundRows.
var (
	much     = withVars("u: future int; k: int when c; e: bool when c;", "u = async less(x, same(y)); e = k > 15; k = 5 -> pre k + (x when c); y = merge c (merge e (k when e) (-k when not e)) (await u after (1, 2) when not c);")
	muchSaid = []int64{-5, 2, 35, 25, 85}
)

// writes: up to its end a machine of two workers writes that.
func writes(t *testing.T, m *mach.Machine, want []int64) {
	t.Helper()
	ends(t, m, 2)
	if got := m.Out(0); !slices.Equal(got, want) {
		t.Errorf("a machine writes %v, want %v", got, want)
	}
}

func clones(rows [][]int64) [][]int64 {
	var l [][]int64
	for _, row := range rows {
		l = append(l, slices.Clone(row))
	}
	return l
}

// TestRowsStay: they aren't changed, and aren't kept, nor is a script.
func TestRowsStay(t *testing.T) {
	_, p := lowered(t, much)
	rows, script := clones(soundRows), []int{0, 1, -1, 0}
	m := mach.New(p, rows...)
	if m.Run(script...); !slices.Equal(script, []int{0, 1, -1, 0}) {
		t.Errorf("the script is now %v", script)
	}
	if writes(t, m, muchSaid); !slices.EqualFunc(rows, soundRows, slices.Equal) {
		t.Errorf("rows are now %v", rows)
	}
	n := mach.New(p, rows...)
	for i := range rows {
		clear(rows[i])
	}
	clear(rows)
	writes(t, n, muchSaid)
}

// TestBehindRows: what stands behind a row's end stays, too, and doesn't come in.
func TestBehindRows(t *testing.T) {
	_, p := lowered(t, withVars("", "y = if c then x else -x;"))
	list := []int64{1, 1, 2, 1, 1}
	m := mach.New(p, list[:2], list[2:3], list[4:4], list[3:])
	ends(t, m, 1)
	if want := []int64{1, -2, 0, 1}; !slices.Equal(m.Out(0), want) || !slices.Equal(list, []int64{1, 1, 2, 1, 1}) {
		t.Errorf("of rows of one list Out is %v, want %v; the list is now %v", m.Out(0), want, list)
	}
}

// TestProgramStays: neither New nor any pick changes it.
func TestProgramStays(t *testing.T) {
	_, p := lowered(t, much)
	writes(t, mach.New(p, soundRows...), muchSaid)
	if _, want := lowered(t, much); !reflect.DeepEqual(p, want) {
		t.Errorf("the program is now %+v, want %+v", p, want)
	}
}

// spoil makes zeros of all that can be reached, but for what is hidden.
func spoil(v reflect.Value) {
	switch v.Kind() {
	case reflect.Pointer:
		spoil(v.Elem())
	case reflect.Struct:
		for i := range v.NumField() {
			spoil(v.Field(i))
		}
	case reflect.Slice:
		for i := range v.Len() {
			spoil(v.Index(i))
		}
	}
	if v.CanSet() {
		v.SetZero()
	}
}

// TestProgramGone: a machine doesn't change with the program of which it was made.
func TestProgramGone(t *testing.T) {
	_, p := lowered(t, much)
	m := mach.New(p, soundRows...)
	spoil(reflect.ValueOf(p))
	if p.Len() != 0 {
		t.Fatalf("the program is still %+v", p)
	}
	writes(t, m, muchSaid)
}

// TestOutApart: what is answered doesn't change any more, and changes nothing.
func TestOutApart(t *testing.T) {
	_, p := lowered(t, much)
	m := mach.New(p, soundRows...)
	var told [][]int64
	for !m.Done() {
		m.Run(0, 1)
		told = append(told, m.Out(0))
		own := m.Out(0)
		_ = append(own, 7)
		clear(own)
	}
	for _, l := range told {
		if !slices.Equal(l, muchSaid[:len(l)]) {
			t.Errorf("%v was answered, want the first of %v", l, muchSaid)
		}
	}
	writes(t, m, muchSaid)
}

// TestApart: of one program there may be many machines, each with what is its own.
func TestApart(t *testing.T) {
	_, p := lowered(t, much)
	first, second := mach.New(p, soundRows...), mach.New(p, soundRows[:2]...)
	for range 20 {
		first.Run(0, 1)
		second.Pick(0)
	}
	third := mach.New(p, soundRows...)
	if third.Steps() != 0 || third.Waiting() != 2 || third.Instants(0) != 0 {
		t.Errorf("a new machine has done %d steps; %d values wait", third.Steps(), third.Waiting())
	}
	writes(t, second, muchSaid[:2])
	writes(t, first, muchSaid)
	writes(t, third, muchSaid)
}
