package clocks_test

import (
	"fmt"
	"slices"
	"testing"

	"girandole/clocks"
	"girandole/tree"
)

func TestSame(t *testing.T) {
	c, notC, d := clocks.Guard{Name: "c"}, clocks.Guard{Name: "c", Off: true}, clocks.Guard{Name: "d"}
	all := []clocks.Clock{{}, {c}, {notC}, {d}, {c, d}, {d, c}, {c, c}, {notC, d}, {c, d, c}}
	for i, a := range all {
		for j, b := range all {
			if got := a.Same(slices.Clone(b)); got != (i == j) {
				t.Errorf("%v.Same(%v) = %t", a, b, got)
			}
		}
		if got := clocks.Clock(nil).Same(a); got != (i == 0) {
			t.Errorf("nil.Same(%v) = %t", a, got)
		}
		if got := a.Same(nil); got != (i == 0) {
			t.Errorf("%v.Same(nil) = %t", a, got)
		}
	}
}

func TestOn(t *testing.T) {
	var c clocks.Clock
	c1 := c.On("c", false)
	c2 := c1.On("d", true)
	for _, x := range []struct{ got, want clocks.Clock }{
		{c, nil}, {c1, clocks.Clock{{Name: "c"}}}, {c2, clocks.Clock{{Name: "c"}, {Name: "d", Off: true}}}, {clocks.Clock{}.On("", true), clocks.Clock{{Off: true}}},
	} {
		if !slices.Equal(x.got, x.want) {
			t.Errorf("a clock is %v, want %v", x.got, x.want)
		}
	}
}

// TestOnKeeps: c stays, what lies behind it too, and two clocks of one c share nothing.
func TestOnKeeps(t *testing.T) {
	room := clocks.Clock{{Name: "a"}, {Name: "b"}, {Name: "z"}}
	for n := range 3 {
		c := room[:n]
		x, y := c.On("x", false), c.On("y", true)
		if len(x) != n+1 || x[n] != (clocks.Guard{Name: "x"}) || y[n] != (clocks.Guard{Name: "y", Off: true}) {
			t.Errorf("On of %v: %v and %v", c, x, y)
		}
		x[0].Name = "other"
		if want := (clocks.Clock{{Name: "a"}, {Name: "b"}, {Name: "z"}}); !slices.Equal(room, want) || n > 0 && y[0].Name != "a" {
			t.Errorf("afterwards it is %v, and the other one %v", room, y)
		}
	}
}

func isOf(t *testing.T, n tree.Node, name string, want clocks.Clock) {
	t.Helper()
	if c, ok := clocks.Of(n, name); !ok || !slices.Equal(c, want) {
		t.Errorf("Of(%q) = %v, %t, want %v", name, c, ok, want)
	}
}

func TestOf(t *testing.T) {
	n := programOf(t, "node f(x: int, c: bool) returns (y: int, o: bool) var e: int when d; d: bool when not c; v: int; w: bool when o; k: bool when not w; m: int when not k; let e = (x when not c) when d; d = c when not c; v = x; w = c when o; k = w when not w; m = 1; y = v; o = c; tel")[0]
	for _, name := range []string{"x", "c", "y", "o", "v"} {
		isOf(t, n, name, nil)
	}
	isOf(t, n, "d", clocks.Clock{{Name: "c", Off: true}})
	isOf(t, n, "e", clocks.Clock{{Name: "c", Off: true}, {Name: "d"}})
	isOf(t, n, "w", clocks.Clock{{Name: "o"}})
	isOf(t, n, "k", clocks.Clock{{Name: "o"}, {Name: "w", Off: true}})
	isOf(t, n, "m", clocks.Clock{{Name: "o"}, {Name: "w", Off: true}, {Name: "k", Off: true}})
}

// TestOfItself: what hangs on itself, and what hangs on such a one, has no clock; the others have theirs.
func TestOfItself(t *testing.T) {
	n := programOf(t, "node f(c: bool) returns () var a: bool when a; b: bool when not d; d: bool when e; e: bool when b; g: int when a; h: int when c; k: bool when not e; let a = true; b = true; d = true; e = true; g = 1; h = 1; k = true; tel")[0]
	for _, name := range []string{"a", "b", "d", "e", "g", "k"} {
		if c, ok := clocks.Of(n, name); ok || len(c) > 0 {
			t.Errorf("Of(%q) = %v, %t, want none, false", name, c, ok)
		}
	}
	isOf(t, n, "c", nil)
	isOf(t, n, "h", clocks.Clock{{Name: "c"}})
}

// TestOfLong: rows of names, each on the one ahead of it, as many as there can be and more, with an end and without one.
func TestOfLong(t *testing.T) {
	for _, most := range []int{1, 2, 59, 60, 61, 500} {
		var n tree.Node
		var want clocks.Clock
		for i := range most {
			d := tree.Decl{Name: fmt.Sprint("v", i), Type: tree.Type{Bool: true}}
			if i > 0 {
				want = append(want, clocks.Guard{Name: fmt.Sprint("v", i-1), Off: i%3 == 0})
				d.Clock, d.Off = want[i-1].Name, want[i-1].Off
			}
			n.Vars = slices.Insert(n.Vars, 0, d)
		}
		last := fmt.Sprint("v", most-1)
		isOf(t, n, last, want)
		n.Vars[most-1].Clock = last
		if c, ok := clocks.Of(n, last); ok || len(c) > 0 {
			t.Errorf("Of(%q) of %d in a ring = %v, %t", last, most, c, ok)
		}
	}
}

// TestOfIsNew: nobody who writes into a clock changes another one.
func TestOfIsNew(t *testing.T) {
	n := programOf(t, "node f(c: bool, d: bool) returns () var a: bool when c; b: int when a; let a = d when c; b = 1; tel")[0]
	c, _ := clocks.Of(n, "b")
	c[0] = clocks.Guard{}
	isOf(t, n, "b", clocks.Clock{{Name: "c"}, {Name: "a"}})
	isOf(t, n, "a", clocks.Clock{{Name: "c"}})
}
