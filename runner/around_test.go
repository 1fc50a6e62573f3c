package runner

import (
	"slices"
	"sync"
	"testing"

	"girandole/cell"
	"girandole/code"
	"girandole/compile"
	"girandole/lex"
)

// nets: programs of more than one worker, the rooms of their edges, rising, and the values ahead.
var nets = [...]struct {
	text        string
	rooms, wait []int
}{
	{"node f(x: int) returns (y: int) let y = x; tel", nil, nil},
	{"node f(x: int) returns (y: int) var u: future int; let u = async g(); y = await u; tel node g() returns (b: int) let b = 1; tel", []int{1}, []int{0}},
	{"node f(x: int) returns (y: int) var u: future int; let u = async g(x); y = await u after (3, 1, 2) + await u after (5); tel" +
		" node g(a: int) returns (b: int) let b = a; tel", []int{1, 2, 4}, []int{0, 1, 3}},
	{"node f(x: int) returns (y: int) var u: future int; let u = async g(x, u); y = x; tel" +
		" node g(a: int, w: future int) returns (b: int) let b = a + await w after (8, 7, 6, 5, 4, 3, 2, 1); tel", []int{1, 9}, []int{0, 8}},
}

func lowered(t *testing.T, text string) *code.Program {
	t.Helper()
	_, p, f := compile.Compile(text)
	if f != (lex.Fault{}) {
		t.Fatalf("%q: %+v; want no fault", text, f)
	}
	return p
}

// rooms of all edges, rising, and how many values stand in them, likewise.
func (a *around) rooms() (rooms, wait []int) {
	for _, edge := range a.edges {
		rooms, wait = append(rooms, cap(edge)), append(wait, len(edge))
	}
	slices.Sort(rooms)
	slices.Sort(wait)
	return rooms, wait
}

// has: an edge for each, of its room, in which just so many values stand.
func (a *around) has(t *testing.T, text string, rooms, wait []int) {
	t.Helper()
	r, w := a.rooms()
	if !slices.Equal(r, rooms) || !slices.Equal(w, wait) {
		t.Errorf("of %q the edges have room for %v, and %v values stand there; want %v, %v", text, r, w, rooms, wait)
	}
}

// TestRooms: a channel for each edge, of its room; the values ahead stand there at first, and as many at the end.
func TestRooms(t *testing.T) {
	for _, x := range nets {
		p := lowered(t, x.text)
		rows := [][]int64{{1}, {2}, {3}, {4}, {5}, {6}, {7}, {8}, {9}, {10}}
		a := aroundOf(p, rows)
		a.has(t, x.text, x.rooms, x.wait)
		var all sync.WaitGroup
		for worker := range p.Len() {
			all.Add(1)
			go func() {
				defer all.Done()
				a.goOn(cell.New(p, worker, len(rows)))
			}()
		}
		all.Wait()
		a.has(t, x.text, x.rooms, x.wait)
	}
}

// TestAhead: the values ahead stand there in their order.
func TestAhead(t *testing.T) {
	edge := edgeOf(code.Edge{Room: 4, Ahead: []int64{5, -6, 7}})
	for _, want := range []int64{5, -6, 7} {
		if got := <-edge; got != want {
			t.Errorf("%d comes, want %d", got, want)
		}
	}
	if len(edge) != 0 || cap(edge) != 4 {
		t.Errorf("behind these there are %d more, with room for %d", len(edge), cap(edge))
	}
}
