package runner_test

import (
	"runtime"
	"slices"
	"strconv"
	"strings"
	"sync"
	"testing"
	"time"

	"girandole/runner"
)

// TestExample: the document's own.
func TestExample(t *testing.T) {
	tells(t, "node f(x: int) returns (y: int) let y = x + 1; tel", [][]int64{{5}, {6}}, [][]int64{{6, 7}})
}

// ten is what comes in at an instant, one what is 1 at the first one.
func ten(i int) int64 { return int64(10*i + 10) }
func one(i int) int64 { return int64(i + 1) }

// sound: programs, how many workers they have, and what y is at each instant.
var sound = [...]struct {
	vars, eqs string
	workers   int
	want      func(i int) int64
}{
	{"", "y = 7;", 1, func(int) int64 { return 7 }},
	{"", "y = sum(x) - 10;", 1, func(i int) int64 { return ten(i)*one(i)/2 + ten(i)/2 - 10 }},
	{"", "y = merge c (sum(1 when c)) (-x when not c);", 1, func(i int) int64 {
		if i%2 == 1 {
			return -ten(i)
		}
		return one(i / 2)
	}},
	{"u: future int;", "u = async count(); y = x;", 2, ten},
	{"u: future int;", "u = async more(x); y = x;", 2, ten},
	{"u: future int;", "u = async count(); y = await u;", 2, one},
	{"u: future int;", "u = async more(x); y = await u after (0);", 2, behind([]int64{0}, func(i int) int64 { return ten(i) + 1 })},
	{"u: future int;", "u = async more(7); y = await u after (0);", 2, behind([]int64{0}, func(int) int64 { return 8 })},
	{"u: future int;", "u = async less(x, 1 fby x); y = await u after (7, 8);", 2, behind([]int64{7, 8, 9}, func(int) int64 { return 10 })},
	{"u: future int;", "u = async sum(1); y = await u after (8, 7, 6, 5, 4, 3, 2, 1);", 2, behind([]int64{8, 7, 6, 5, 4, 3, 2, 1}, one)},
	{"u: future int;", "y = await u + 2 * await u - await u after (8, 9); u = async count();", 2, func(i int) int64 {
		return 3*one(i) - behind([]int64{8, 9}, one)(i)
	}},
	{"u: future int;", "u = async less(x, y); y = await u after (3);", 2, func(i int) int64 { return int64(10*(i/2) + 3 + 4*(i%2)) }},
	{"u: future int;", "u = async ring(x, u); y = await u after (-1);", 2, behind([]int64{-1}, func(i int) int64 {
		if i%2 == 0 {
			return int64(5*i + 10)
		}
		return int64(17 + 20*(i/4) + 6*(i/2%2))
	})},
	{"u: future int;", "u = async deaf(u, x); y = await u after (0);", 2, behind([]int64{0, 4}, ten)},
	{"u: future int; v: future int;", "u = async late(v); v = async count(); y = await u;", 3, behind([]int64{10}, func(i int) int64 { return 2 * one(i) })},
	{"u: future int; v: future int;", "u = async late(v); v = async now(u); y = await v;", 3, func(i int) int64 { return 10 << i }},
	{"u: future int; m: int when c;", "u = async count(); m = (await u after (9)) when c; y = merge c (m) (0);", 2, func(i int) int64 {
		return behind([]int64{9}, one)(i) * int64(1-i%2)
	}},
	{"u: future bool; v: future bool;", "v = async flags(u); u = async over(x, 25); y = if await v after (true) then x else 0;", 3, func(i int) int64 {
		if i == 2 || i == 3 || i == 4 {
			return 0
		}
		return ten(i)
	}},
	{"", "y = on(on(x));", 3, behind([]int64{3, 4}, func(i int) int64 { return ten(i) + 2 })},
}

// TestSound: what programs say, of no rows up to many.
func TestSound(t *testing.T) {
	for _, x := range sound {
		text := withVars(x.vars, x.eqs)
		if n := lowered(t, text).Len(); n != x.workers {
			t.Fatalf("%q has %d workers, want %d", x.eqs, n, x.workers)
		}
		for _, n := range []int{0, 1, 2, 7, 40, 200} {
			tells(t, text, tens(n), [][]int64{rowOf(n, x.want)})
		}
	}
}

// chain: so many workers beside the first one, each of which gets what the one ahead of it gave an instant ago.
func chain(workers int) string {
	vars, eqs, last := "", "", "x"
	for i := range workers {
		u := "u" + strconv.Itoa(i)
		vars += u + ": future int; "
		eqs += u + " = async more(" + last + "); "
		last = "await " + u + " after (0)"
	}
	return withVars(vars, eqs+"y = "+last+";")
}

// TestGreatest: as many workers, values ahead and rows as there may be.
func TestGreatest(t *testing.T) {
	tells(t, chain(29), tens(200), [][]int64{rowOf(200, func(i int) int64 {
		if i < 29 {
			return int64(i)
		}
		return ten(i-29) + 29
	})})
	var vars, eqs, all []string
	for i := range 29 {
		u := "u" + strconv.Itoa(i)
		vars = append(vars, u+": future int;")
		eqs = append(eqs, u+" = async more("+strconv.Itoa(i)+" fby y);")
		all = append(all, "await "+u+" after (0, 0, 0, 0, 0, 0, 0, 0)")
	}
	said := make([]int64, 200)
	for i := range said {
		if i == 8 {
			said[i] = 29*28/2 + 29
		} else if i > 8 {
			said[i] = 29*said[i-9] + 29
		}
	}
	tells(t, withVars(strings.Join(vars, " "), strings.Join(eqs, " ")+" y = "+strings.Join(all, " + ")+";"), tens(200), [][]int64{said})
}

// TestRows: what is wanting is 0, also behind an instant at which it wasn't; what is more doesn't count.
func TestRows(t *testing.T) {
	tells(t, "node f(a: int, c: bool, b: int) returns (p: int, q: bool, r: int) let p = b; q = c; r = a; tel",
		[][]int64{{5, 1, 7}, {}, nil, {6}, {6, 1}, {5, 0, -7, 9, 9}, {1}},
		[][]int64{{7, 0, 0, 0, 0, -7, 0}, {1, 0, 0, 0, 1, 0, 0}, {5, 0, 0, 6, 6, 5, 1}})
	tells(t, "node f() returns (y: int) let y = 1 -> pre y * 2; tel", [][]int64{{}, {7, 8}, nil, {0}}, [][]int64{{1, 2, 4, 8}})
	tells(t, withVars("u: future int;", "u = async less(x, if c then 1 else 2); y = await u after (0);"),
		[][]int64{{5, 1, 3}, {7}, {}, {9, 1}}, [][]int64{{0, 4, 5, -2}})
}

// TestPorts: each by its number, in and out; one row for each, also if there are no rows, or no ports.
func TestPorts(t *testing.T) {
	text := "node f(a: int, b: int, c: bool) returns (p: int, q: int, r: bool) var u: future int; v: future bool;" +
		" let p = b; q = await u after (0); r = await v after (false, true); u = async h(b, u, c, a); v = async e(a, b); tel" +
		" node h(a: int, w: future int, b: bool, c: int) returns (d: int) let d = if b then a * 100 + c else c - await w after (7); tel" +
		" node e(a: int, b: int) returns (c: bool) let c = a < b; tel"
	tells(t, text, [][]int64{{1, 2, 1}, {4, 3, 0}, {5, 6, 1}, {7, 8, 0}}, [][]int64{{2, 3, 6, 8}, {0, 201, 4 - 201, 605}, {0, 1, 1, 0}})
	tells(t, text, nil, [][]int64{nil, nil, nil})
	tells(t, "node f(a: int) returns () let tel", [][]int64{{1}, {2}}, nil)
	tells(t, "node f() returns () let tel", nil, nil)
}

// TestOften: it hangs on nothing how goroutines go on: not on how many go on at once, nor on other runs.
func TestOften(t *testing.T) {
	defer runtime.GOMAXPROCS(runtime.GOMAXPROCS(0))
	rows := tens(60)
	for _, at := range []int{1, 2, 3, 8, 32} {
		runtime.GOMAXPROCS(at)
		for _, x := range sound {
			p := lowered(t, withVars(x.vars, x.eqs))
			want := [][]int64{rowOf(len(rows), x.want)}
			var all sync.WaitGroup
			for range 20 {
				all.Add(1)
				go func() {
					defer all.Done()
					if got := runner.Run(p, rows...); !slices.EqualFunc(got, want, slices.Equal) {
						t.Errorf("%d at once, %q says %v, want %v", at, x.eqs, got, want)
					}
				}()
			}
			all.Wait()
		}
	}
}

// TestJoined: behind Run there are no more goroutines than ahead of it.
func TestJoined(t *testing.T) {
	p, rows := lowered(t, chain(29)), tens(50)
	ahead := runtime.NumGoroutine()
	for range 20 {
		runner.Run(p, rows...)
	}
	for range 1000 {
		if runtime.NumGoroutine() <= ahead {
			return
		}
		time.Sleep(time.Millisecond) // one that has said that it is done may still be there
	}
	t.Errorf("behind Run there are %d goroutines, ahead of it %d", runtime.NumGoroutine(), ahead)
}
