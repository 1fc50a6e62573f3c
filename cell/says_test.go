package cell_test

import (
	"slices"
	"testing"

	"girandole/cell"
)

// page is around a program's one worker: rows come in, and what is written is kept, instant by instant, port by
// port; there are no edges.
type page struct {
	t    *testing.T
	rows [][]int64
	out  [][]int64
}

func (p *page) Recv(edge int) (int64, bool) {
	p.t.Fatalf("the edge %d is asked for a value", edge)
	return 0, false
}

func (p *page) Send(edge int, v int64) bool {
	p.t.Fatalf("%d is put into the edge %d", v, edge)
	return false
}

// Read: what is wanting is 0.
func (p *page) Read(instant, port int) int64 {
	if row := p.rows[instant]; port < len(row) {
		return row[port]
	}
	return 0
}

func (p *page) Write(port int, v int64) {
	at := len(p.out) - 1
	if len(p.out[at]) != port {
		p.t.Fatalf("at instant %d %d is written at port %d behind %v", at, v, port, p.out[at])
	}
	p.out[at] = append(p.out[at], v)
}

// written: what a text's one worker writes, instant by instant.
func written(t *testing.T, text string, rows [][]int64) [][]int64 {
	t.Helper()
	p := &page{t: t, rows: rows}
	c := cell.New(lowered(t, text), 0, len(rows))
	for i := range rows {
		p.out = append(p.out, nil)
		for c.Instants() == i {
			if got := c.Step(p); got != cell.Stepped {
				t.Fatalf("of %q, at instant %d, Step answers %d", text, i, got)
			}
		}
	}
	if !c.Done() || c.Step(p) != cell.Finished {
		t.Fatalf("of %q the worker isn't done behind %d instants", text, len(rows))
	}
	return p.out
}

// says holds what a text's one worker writes against layer 11.
func says(t *testing.T, text string, rows [][]int64) {
	t.Helper()
	if got, want := written(t, text, rows), sense(t, text, rows); !slices.EqualFunc(got, want, slices.Equal) {
		t.Errorf("of %v %q says %v, want %v", rows, text, got, want)
	}
}

// tells: a text's one worker writes just that, worked out by hand.
func tells(t *testing.T, text string, rows, want [][]int64) {
	t.Helper()
	says(t, text, rows)
	if got := written(t, text, rows); !slices.EqualFunc(got, want, slices.Equal) {
		t.Errorf("of %v %q says %v, want %v", rows, text, got, want)
	}
}

// TestExample: the document's own.
func TestExample(t *testing.T) {
	tells(t, "node f(x: int) returns (y: int) let y = x + 1; tel", [][]int64{{5}, {6}}, [][]int64{{6}, {7}})
}

func TestSays(t *testing.T) {
	rows := [][]int64{{1, 1}, {2, 0}, {3, 1}, {4, 1}, {5, 0}, {6, 1}}
	for _, x := range []struct {
		vars, eqs string
		want      []int64
	}{
		{"", "y = 3;", []int64{3, 3, 3, 3, 3, 3}},
		{"", "y = if c then -x else x;", []int64{-1, 2, -3, -4, 5, -6}},
		{"", "y = 0 -> pre y + x;", []int64{0, 2, 5, 9, 14, 20}},
		{"", "y = 5 fby x;", []int64{5, 1, 2, 3, 4, 5}},
		{"", "y = -7 fby 8 fby x;", []int64{-7, 8, 1, 2, 3, 4}},
		{"m: int;", "y = 1 fby m; m = 1 fby (y + m);", []int64{1, 1, 2, 3, 5, 8}},
		{"", "y = merge c (0 -> pre (x when c)) (1 fby (x when not c));", []int64{0, 1, 1, 3, 2, 4}},
		{"k: int when c;", "y = merge c (k) (-1); k = sum(x when c);", []int64{1, -1, 4, 8, -1, 14}},
		{"e: bool when c; k: int when e;", "e = (x > 2) when c; y = merge c (merge e (k) (-1)) (0); k = 7 -> pre k + 1;", []int64{-1, 0, 7, 8, 0, 9}},
		{"", "y = back(sum(x)) + sum(back(x));", []int64{0, 10, 7, 11, 17, 25}},
	} {
		want := [][]int64{}
		for _, v := range x.want {
			want = append(want, []int64{v})
		}
		tells(t, withVars(x.vars, x.eqs), rows, want)
	}
}

// TestPorts: each port by its number, in and out, and as many as there are.
func TestPorts(t *testing.T) {
	tells(t, "node f(a: int, c: bool, b: int) returns (p: int, q: bool, r: int, s: int) let s = a; p = b; q = not c; r = a - b; tel",
		[][]int64{{5, 1, 7}, {1, 0, -2}, {}, {9}}, [][]int64{{7, 0, -2, 5}, {-2, 1, 3, 1}, {0, 1, 0, 0}, {0, 1, 9, 9}})
	tells(t, "node f(a: int) returns () let tel", [][]int64{{1}, {2}}, [][]int64{nil, nil})
	tells(t, "node f() returns (y: int) let y = 1 -> pre y * 2; tel", [][]int64{{}, {}, {}}, [][]int64{{1}, {2}, {4}})
	tells(t, "node f() returns () let tel", [][]int64{nil}, [][]int64{nil})
}
