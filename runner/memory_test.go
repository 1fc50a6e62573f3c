package runner_test

import (
	"reflect"
	"slices"
	"testing"

	"girandole/runner"
)

// much: a program with all that workers may have to do, and what it says of five rows.
var (
	much = withVars("u: future int; k: int when c; e: bool when c;", "u = async less(x, 1 fby y); e = k > 15;"+
		" k = 5 -> pre k + (x when c); y = merge c (merge e (k when e) (-k when not e)) (await u after (1, 2) when not c);")
	muchSaid = [][]int64{{-5, 2, 35, 25, 85}}
)

func clones(rows [][]int64) [][]int64 {
	var l [][]int64
	for _, row := range rows {
		l = append(l, slices.Clone(row))
	}
	return l
}

// TestStays: neither rows nor a program are changed.
func TestStays(t *testing.T) {
	p, rows := lowered(t, much), tens(5)
	for range 3 {
		if got := run(t, p, rows); !slices.EqualFunc(got, muchSaid, slices.Equal) {
			t.Errorf("Run answers %v, want %v", got, muchSaid)
		}
	}
	if !slices.EqualFunc(rows, tens(5), slices.Equal) {
		t.Errorf("rows are now %v", rows)
	}
	if want := lowered(t, much); !reflect.DeepEqual(p, want) {
		t.Errorf("the program is now %+v, want %+v", p, want)
	}
}

// TestBehindRows: what stands behind a row's end stays, too, and doesn't come in.
func TestBehindRows(t *testing.T) {
	p := lowered(t, withVars("", "y = if c then x else -x;"))
	list := []int64{1, 1, 2, 1, 1}
	got := run(t, p, [][]int64{list[:2], list[2:3], list[4:4], list[3:]})
	if want := []int64{1, -2, 0, 1}; len(got) != 1 || !slices.Equal(got[0], want) || !slices.Equal(list, []int64{1, 1, 2, 1, 1}) {
		t.Errorf("of rows of one list Run answers %v, want %v; the list is now %v", got, want, list)
	}
}

// TestApart: an answer shares no memory with rows, the program, another answer, nor one of its rows with another.
func TestApart(t *testing.T) {
	p := lowered(t, "node f(a: int) returns (p: int, q: int) let p = a; q = a; tel")
	rows, want := [][]int64{{1}, {2}, {3}}, [][]int64{{1, 2, 3}, {1, 2, 3}}
	first, second := runner.Run(p, rows...), runner.Run(p, rows...)
	kept := clones(second)
	for i := range first {
		_ = append(first[i], 7)
		clear(first[i])
		if i == 0 && !slices.Equal(first[1], want[1]) {
			t.Errorf("with one row the other one became %v", first[1])
		}
	}
	clear(first)
	for i := range rows {
		clear(rows[i])
	}
	clear(rows)
	if !slices.EqualFunc(second, want, slices.Equal) || !slices.EqualFunc(kept, want, slices.Equal) {
		t.Errorf("another answer is now %v, want %v", second, want)
	}
	if third := runner.Run(p, []int64{1}, []int64{2}, []int64{3}); !slices.EqualFunc(third, want, slices.Equal) {
		t.Errorf("behind that Run answers %v, want %v", third, want)
	}
}
