package solo_test

import (
	"math"
	"slices"
	"strconv"
	"strings"
	"testing"

	"girandole/api"
	"girandole/solo"
)

const (
	least = math.MinInt64
	most  = math.MaxInt64
)

// library: nodes that are called.
const library = `
node sum(x: int) returns (y: int) let y = x -> pre y + x; tel
node id(x: int) returns (y: int) let y = x; tel
node count() returns (n: int) let n = 1 -> pre n + 1; tel
node back2(x: int) returns (y: int) let y = 0 fby 0 fby x; tel
node both(x: int, c: bool) returns (y: int, z: bool) let z = not c; y = -x; tel
node crossed(x: int, w: int) returns (y: int, z: int) let y = w; z = x; tel
node picks(x: int, c: bool) returns (y: int) var k: int when c; l: int when not c; let y = merge c (k) (l); k = sum(x when c); l = -sum(1); tel
node truth(c: bool, d: bool) returns (e: bool) var k: bool when c; let e = merge c (k) (false); k = d when c; tel
node holds(x: int, c: bool) returns (y: int) var k: int; let y = merge c (x when c) (k when not c); k = 0 -> pre y; tel
`

// said: of equations of y, with a, b, c, d as rows has them, what y is.
type said struct {
	vars, eqs string
	want      []int64
}

// rows: a, b, c, d, instant by instant.
func rows() [][]int64 {
	var l [][]int64
	for i, c := range []int64{1, 0, 1, 1, 0, 1, 0, 0} {
		d := []int64{0, 1, 1, 0, 1, 1, 0, 1}[i]
		l = append(l, []int64{int64(i + 1), int64(10 * (i + 1)), c, d})
	}
	return l
}

func withVars(vars, eqs string) string {
	if vars != "" {
		vars = "var " + vars
	}
	return "node f(a: int, b: int, c: bool, d: bool) returns (y: int) " + vars + " let " + eqs + " tel" + library
}

func saysAll(t *testing.T, l []said) {
	t.Helper()
	for _, x := range l {
		var got []int64
		for _, out := range instants(t, withVars(x.vars, x.eqs), rows()) {
			got = append(got, out...)
		}
		if !slices.Equal(got, x.want) {
			t.Errorf("%q says %v, want %v", x.eqs, got, x.want)
		}
	}
}

// TestFirst is the chapter's example.
func TestFirst(t *testing.T) {
	tells(t, "node f(x: int) returns (y: int) let y = 0 -> pre y + x; tel", [][]int64{{1}, {1}, {1}}, [][]int64{{0}, {1}, {2}})
}

func TestSigns(t *testing.T) {
	saysAll(t, []said{
		{"", "y = 3;", []int64{3, 3, 3, 3, 3, 3, 3, 3}},
		{"", "y = a;", []int64{1, 2, 3, 4, 5, 6, 7, 8}},
		{"", "y = b - a * 2 + -a;", []int64{7, 14, 21, 28, 35, 42, 49, 56}},
		{"", "y = b / 4 mod 3;", []int64{2, 2, 1, 1, 0, 0, 2, 2}},
		{"", "y = -b / 4;", []int64{-2, -5, -7, -10, -12, -15, -17, -20}},
		{"", "y = if c and not d or a = 4 then a else -b;", []int64{1, -20, -30, 4, -50, -60, -70, -80}},
		{"", "y = if a <> 3 and a <= 6 and a > 1 then 1 else 0;", []int64{0, 1, 0, 1, 1, 1, 0, 0}},
		{"", "y = if c xor d then if true then a else 0 else if false then 0 else -1;", []int64{1, 2, -1, 4, 5, -1, -1, 8}},
		{"k: bool; m: int;", "y = if k then m else 0; m = a + 1; k = a < 3 xor b >= 70;", []int64{2, 3, 0, 0, 0, 0, 8, 9}},
	})
}

func TestDelays(t *testing.T) {
	saysAll(t, []said{
		{"", "y = 0 -> a;", []int64{0, 2, 3, 4, 5, 6, 7, 8}},
		{"", "y = b -> a;", []int64{10, 2, 3, 4, 5, 6, 7, 8}},
		{"", "y = 0 -> pre a;", []int64{0, 1, 2, 3, 4, 5, 6, 7}},
		{"", "y = 0 -> pre y + a;", []int64{0, 2, 5, 9, 14, 20, 27, 35}},
		{"", "y = 1 -> 2 -> 3;", []int64{1, 3, 3, 3, 3, 3, 3, 3}},
		{"", "y = (1 -> 2) -> a;", []int64{1, 2, 3, 4, 5, 6, 7, 8}},
		{"", "y = 1 -> pre (2 -> pre (3 -> a));", []int64{1, 2, 3, 2, 3, 4, 5, 6}},
		{"", "y = 7 fby a;", []int64{7, 1, 2, 3, 4, 5, 6, 7}},
		{"", "y = -7 fby 8 fby 9 fby a;", []int64{-7, 8, 9, 1, 2, 3, 4, 5}},
		{"", "y = 5 -> pre (6 fby 7 fby a);", []int64{5, 6, 7, 1, 2, 3, 4, 5}},
		{"", "y = 5 fby (6 -> pre a);", []int64{5, 6, 1, 2, 3, 4, 5, 6}},
		{"", "y = (0 fby a) - (1 fby b);", []int64{-1, -9, -18, -27, -36, -45, -54, -63}},
		{"", "y = if true fby c then 1 else 0;", []int64{1, 1, 0, 1, 1, 0, 1, 0}},
		{"k: bool;", "y = if k then 1 else 0; k = false fby not k;", []int64{0, 1, 0, 1, 0, 1, 0, 1}},
		{"m: int;", "y = 1 fby m; m = 1 fby (y + m);", []int64{1, 1, 2, 3, 5, 8, 13, 21}},
		{"m: int; n: int;", "y = 1 fby m; m = 2 fby n; n = 3 fby y;", []int64{1, 2, 3, 1, 2, 3, 1, 2}},
		{"m: int; n: int;", "n = 0 -> pre m; y = n; m = a + n;", []int64{0, 1, 3, 6, 10, 15, 21, 28}},
	})
}

func TestClocks(t *testing.T) {
	saysAll(t, []said{
		{"", "y = merge c (a when c) (b when not c);", []int64{1, 20, 3, 4, 50, 6, 70, 80}},
		{"", "y = merge c (1) (2);", []int64{1, 2, 1, 1, 2, 1, 2, 2}},
		{"", "y = 0 -> pre merge c (a when c) (b when not c);", []int64{0, 1, 20, 3, 4, 50, 6, 70}},
		{"k: int when c;", "k = a when c; y = merge c (k + b when c) (-1);", []int64{11, -1, 33, 44, -1, 66, -1, -1}},
		{"k: int when not d;", "k = a when not d; y = merge d (0) (k);", []int64{1, 0, 0, 4, 0, 0, 7, 0}},
		{"e: bool when c; m: int when e; n: int when not e;", "y = merge c (merge e (m) (n)) (0); e = d when c; m = a when c when e; n = b when c when not e;",
			[]int64{10, 0, 3, 40, 0, 6, 0, 0}},
		{"e: bool when not c; m: int when e;", "y = merge c (0) (merge e (m) (-1)); e = d when not c; m = a when not c when e;", []int64{0, 2, 0, 0, 5, 0, -1, 8}},
		{"e: bool; k: int when e;", "e = false; k = a when e; y = merge e (k) (b when not e);", []int64{10, 20, 30, 40, 50, 60, 70, 80}},
	})
}

// TestDelaysOnClocks: they go on where their clock is there, and nowhere else, also where a guard that isn't
// there was last as it must be.
func TestDelaysOnClocks(t *testing.T) {
	saysAll(t, []said{
		{"", "y = merge c (0 -> pre (a when c)) (1 fby (b when not c));", []int64{0, 1, 1, 3, 20, 4, 50, 70}},
		{"k: int when c;", "y = merge c (k) (-1); k = (0 -> pre a) when c;", []int64{0, -1, 2, 3, -1, 5, -1, -1}},
		{"k: int when c;", "y = merge c (k) (-1); k = 0 -> (pre a) when c;", []int64{0, -1, 2, 3, -1, 5, -1, -1}},
		{"k: int when not c;", "y = merge c (-1) (k); k = 0 -> (pre a) when not c;", []int64{-1, 0, -1, -1, 4, -1, 6, 7}},
		{"k: int when c;", "y = merge c (1 -> pre k) (0); k = a when c;", []int64{1, 0, 1, 3, 0, 4, 0, 0}},
		{"k: int when c;", "y = merge c (k) (0); k = 5 fby (a when c);", []int64{5, 0, 1, 3, 0, 4, 0, 0}},
		{"k: int when c;", "y = merge c (k) (0); k = 5 fby (6 fby (a when c));", []int64{5, 0, 6, 1, 0, 3, 0, 0}},
		{"k: int when c;", "y = merge c (k) (0); k = 5 fby ((6 fby a) when c);", []int64{5, 0, 6, 2, 0, 3, 0, 0}},
		{"k: int when c;", "y = merge c (k) (0); k = (5 fby a) when c;", []int64{5, 0, 2, 3, 0, 5, 0, 0}},
		{"k: int when c;", "y = merge c (k) (0); k = 1 -> (2 -> a) when c;", []int64{1, 0, 3, 4, 0, 6, 0, 0}},
		{"k: int when not d;", "y = merge d (0) (k); k = 1 fby 2 fby (a when not d);", []int64{1, 0, 0, 2, 0, 0, 1, 0}},
		{"e: bool; k: int when e;", "e = a > 3; y = merge e (k) (-a when not e); k = 1 -> pre k + 1;", []int64{-1, -2, -3, 1, 2, 3, 4, 5}},
		{"e: bool; k: int when e;", "e = a > 3; y = merge e (k) (-a when not e); k = -9 fby (b when e);", []int64{-1, -2, -3, -9, 40, 50, 60, 70}},
		{"e: bool when c; m: int when e; n: int when not e;", "y = merge c (merge e (m) (n)) (0); e = d when c; m = 1 -> 2; n = -1 fby (b when c when not e);",
			[]int64{-1, 0, 1, 10, 0, 2, 0, 0}},
		{"e: bool when c; m: int when e;", "y = merge c (merge e (m) (0)) (100); e = true; m = 1 -> pre m + 1;", []int64{1, 100, 2, 3, 100, 4, 100, 100}},
		{"e: bool when c; m: int when not e;", "y = merge c (merge e (0) (m)) (100); e = false; m = 1 fby (m + 1);", []int64{1, 100, 2, 3, 100, 4, 100, 100}},
		{"e: bool when not c; m: int when e;", "y = merge c (100) (merge e (m) (0)); e = false fby true; m = 5 fby 6 fby (m * 2);", []int64{100, 0, 100, 100, 5, 100, 6, 10}},
	})
}

func TestCalls(t *testing.T) {
	saysAll(t, []said{
		{"", "y = sum(a);", []int64{1, 3, 6, 10, 15, 21, 28, 36}},
		{"", "y = sum(a) * 100 + sum(id(2) + 1);", []int64{103, 306, 609, 1012, 1515, 2118, 2821, 3624}},
		{"", "y = sum(sum(a));", []int64{1, 4, 10, 20, 35, 56, 84, 120}},
		{"", "y = 0 -> pre sum(a);", []int64{0, 1, 3, 6, 10, 15, 21, 28}},
		{"", "y = sum(0 -> pre y) + 1;", []int64{1, 2, 4, 8, 16, 32, 64, 128}},
		{"", "y = count() * 10 + count();", []int64{11, 22, 33, 44, 55, 66, 77, 88}},
		{"k: bool;", "(y, k) = both(a, c);", []int64{-1, -2, -3, -4, -5, -6, -7, -8}},
		{"k: bool; m: int;", "(m, k) = both(a, c); y = if k then m else 0;", []int64{0, -2, 0, 0, -5, 0, -7, -8}},
		{"m: int;", "(y, m) = crossed(y, a);", []int64{1, 2, 3, 4, 5, 6, 7, 8}},
		{"m: int;", "(m, y) = crossed(m, b);", []int64{10, 20, 30, 40, 50, 60, 70, 80}},
		{"e: bool;", "e = truth(c, d); y = merge e (a when e) (0);", []int64{0, 0, 3, 0, 0, 6, 0, 0}},
		{"", "y = picks(a, true);", []int64{1, 3, 6, 10, 15, 21, 28, 36}},
		{"", "y = picks(a, c);", []int64{1, -1, 4, 8, -2, 14, -3, -4}},
		{"", "y = holds(a, d);", []int64{0, 2, 3, 3, 5, 6, 6, 8}},
	})
}

func TestCallsOnClocks(t *testing.T) {
	saysAll(t, []said{
		{"", "y = merge c (sum(a when c)) (sum(b when not c));", []int64{1, 20, 4, 8, 70, 14, 140, 220}},
		{"", "y = merge c (sum(a) when c) (0);", []int64{1, 0, 6, 10, 0, 21, 0, 0}},
		{"", "y = merge c (count()) (-count());", []int64{1, -1, 2, 3, -2, 4, -3, -4}},
		{"", "y = merge d (back2(a when d)) (back2(b when not d));", []int64{0, 0, 0, 0, 2, 3, 10, 5}},
		{"", "y = merge c (picks(a when c, d when c)) (0);", []int64{-1, 0, 3, -2, 0, 9, 0, 0}},
		{"", "y = merge c (0) (holds(a when not c, d when not c));", []int64{0, 2, 0, 0, 5, 0, 5, 8}},
		{"k: int when c; m: int when c;", "(k, m) = crossed(sum(1), a when c); y = merge c (k * 10 + m) (0);", []int64{11, 0, 32, 43, 0, 64, 0, 0}},
		{"e: bool when c; k: int when e;", "e = d when c; k = count(); y = merge c (merge e (k) (0)) (-count());", []int64{0, -1, 1, 0, -2, 2, -3, -4}},
		{"k: int when c;", "k = 0 fby sum(a when c); y = merge c (k) (-1);", []int64{0, -1, 1, 4, -1, 8, -1, -1}},
		{"e: bool;", "e = truth(d, merge c (true fby not (d when c)) (false)); y = merge e (sum(a when e)) (0);", []int64{0, 0, 3, 0, 0, 9, 0, 0}},
	})
}

// TestComesIn: what is wanting is 0, also behind an instant at which it wasn't, and what is more doesn't count.
func TestComesIn(t *testing.T) {
	const three = "node f(a: int, c: bool, b: int) returns (x: int, z: bool, y: int) let y = b; x = a; z = c; tel"
	tells(t, three, [][]int64{{5, 1, 7}, {}, nil, {6}, {6, 1}, {5, 0, -7, 9, 9}, {1}}, [][]int64{{5, 1, 7}, {0, 0, 0}, {0, 0, 0}, {6, 0, 0}, {6, 1, 0}, {5, 0, -7}, {1, 0, 0}})
	const kept = "node f(a: int, c: bool) returns (x: int, z: bool, y: int) let x = 8 fby a; z = true fby c; y = merge c (1 -> 2) (0); tel"
	tells(t, kept, [][]int64{{5, 1}, {}, {7}, {9, 1, 3}, {2, 0, 1}}, [][]int64{{8, 1, 1}, {5, 1, 0}, {0, 0, 0}, {7, 0, 2}, {9, 1, 0}})
	const none = "node f() returns (y: int) let y = 1 -> pre y * 2; tel"
	tells(t, none, [][]int64{{}, {7, 8}, nil, {0}}, [][]int64{{1}, {2}, {4}, {8}})
}

func TestGoesOut(t *testing.T) {
	tells(t, "node f(a: int) returns () var k: int; let k = a; tel", [][]int64{{1}, {}}, [][]int64{nil, nil})
	tells(t, "node f(a: int) returns () let tel", [][]int64{{1}, {}}, [][]int64{nil, nil})
	const many = "node f(a: int, c: bool) returns (k: bool, y: int, z: int, e: bool) let z = y - 1; y = 2 * a; e = not k; k = a > 2 or c; tel"
	tells(t, many, [][]int64{{1, 0}, {2, 1}, {3, 0}, {4, 1}}, [][]int64{{0, 2, 1, 1}, {1, 4, 3, 0}, {1, 6, 5, 0}, {1, 8, 7, 0}})
	const swapped = "node f(a: int) returns (p: int, q: int) let (q, p) = g(a, h(a)); tel node g(a: int, b: int) returns (x: int, y: int) let x = b; y = a; tel " +
		"node h(a: int) returns (b: int) let b = 0 fby a; tel"
	tells(t, swapped, [][]int64{{7}, {8}, {9}}, [][]int64{{7, 0}, {8, 7}, {9, 8}})
}

// TestFar: numbers of 64 bits that go round.
func TestFar(t *testing.T) {
	const text = "node f(a: int, b: int) returns (s: int, m: int, p: int, n: int, q: int, r: int, l: bool) " +
		"let s = a + b; m = a - b; p = a * b; n = -a; q = a / -1; r = a mod -1; l = a < b; tel"
	tells(t, text, [][]int64{{most, 1}, {least, 1}, {least, -1}, {most, most}, {least, least}}, [][]int64{
		{least, most - 1, most, -most, -most, 0, 0},
		{least + 1, most, least, least, least, 0, 1},
		{most, least + 1, least, least, least, 0, 1},
		{-2, 0, 1, -most, -most, 0, 0},
		{0, 0, 0, least, least, 0, 0},
	})
	const far = "node f() returns (x: int, y: int, z: int) let x = 9223372036854775807 -> pre x + 1; y = -9223372036854775808 fby 9223372036854775807; z = 7 mod -4; tel"
	tells(t, far, [][]int64{{}, {}, {}}, [][]int64{{most, least, 3}, {least, most, 3}, {least + 1, most, 3}})
}

// TestLong: very many instants, with what was at the first one still told at the last.
func TestLong(t *testing.T) {
	s := soloOf(t, "node f(a: int, c: bool) returns (n: int, first: int, k: int) let n = sum(a); first = a -> pre first; k = merge c (count()) (0); tel"+library)
	var n, k int64
	for i := range int64(20000) {
		c := i / 7 % 2
		n, k = n+i+5, k+c
		if got := s.Step(i+5, c); !slices.Equal(got, []int64{n, 5, k * c}) {
			t.Fatalf("at instant %d Step answers %v, want %v", i, got, []int64{n, 5, k * c})
		}
	}
}

// TestGreat: a unit of nearly as many expressions as there may be, in which each name stands ahead of the one that
// it hangs on, and each is kept for one instant.
func TestGreat(t *testing.T) {
	const links = 49
	text, eqs := "node f(x: int) returns (n0: int) var ", ""
	for i := range links {
		text += "n" + strconv.Itoa(i+1) + ": int; "
		eqs += "n" + strconv.Itoa(i) + " = g(n" + strconv.Itoa(i+1) + "); "
	}
	text += "let " + eqs + "n" + strconv.Itoa(links) + " = x; tel node g(x: int) returns (y: int) let y = x + (0 fby x)" + strings.Repeat(" + 2 - 1", 5) + "; tel"
	u, o := ordered(t, text)
	if u.Size() < api.MaxFlat-200 {
		t.Fatalf("the unit has just %d expressions", u.Size())
	}
	s := solo.New(u, o)
	var last [links]int64
	for x := range int64(60) {
		want := x
		for i := range last {
			want, last[i] = want+last[i]+5, want
		}
		if got := s.Step(x); !slices.Equal(got, []int64{want}) {
			t.Fatalf("with %d Step answers %v, want %d", x, got, want)
		}
	}
}
