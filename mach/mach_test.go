package mach_test

import (
	"math"
	"reflect"
	"slices"
	"strconv"
	"strings"
	"testing"

	"girandole/api"
	"girandole/mach"
)

// ends picks all workers, round and round, up to the end.
func ends(t *testing.T, m *mach.Machine, workers int) {
	t.Helper()
	for range 1000000 {
		if m.Done() {
			return
		}
		for w := range workers {
			m.Pick(w)
		}
	}
	t.Fatalf("behind %d steps it isn't done", m.Steps())
}

// tells: of rows a text says that, port by port.
func tells(t *testing.T, text string, rows, want [][]int64) {
	t.Helper()
	l, p := lowered(t, text)
	if says := sense(l, rows); !slices.EqualFunc(says, want, slices.Equal) {
		t.Errorf("of %v %q means %v, want %v", rows, text, says, want)
	}
	m := mach.New(p, rows...)
	ends(t, m, p.Len())
	for port := range want {
		if got := m.Out(port); !slices.Equal(got, want[port]) {
			t.Errorf("of %v %q has written %v at the port %d, want %v", rows, text, got, port, want[port])
		}
	}
	if p.Out != len(want) || len(m.Out(p.Out)) != 0 {
		t.Errorf("%q has %d ports, want %d", text, p.Out, len(want))
	}
}

// TestExample: the document's own.
func TestExample(t *testing.T) {
	_, p := lowered(t, "node f(x: int) returns (y: int) let y = x + 1; tel")
	m := mach.New(p, []int64{5}, []int64{6})
	for m.Pick(0) {
	}
	if got := m.Out(0); !m.Done() || !slices.Equal(got, []int64{6, 7}) {
		t.Errorf("Done %v, Out %v", m.Done(), got)
	}
}

// TestSound: what programs say, worked out by hand, and how many values are on their way.
func TestSound(t *testing.T) {
	for _, x := range sound {
		text := withVars(x.vars, x.eqs)
		tells(t, text, soundRows, [][]int64{x.want})
		l, p := lowered(t, text)
		room, ahead := shadowOf(p, 0).room()
		if p.Len() != x.workers || ahead != x.ahead || room != x.room {
			t.Fatalf("%q has %d workers, %d values ahead, room for %d", x.eqs, p.Len(), ahead, room)
		}
		m, s, says := mach.New(p, soundRows...), shadowOf(p, len(soundRows)), sense(l, soundRows)
		right(t, m, s, says)
		for !m.Done() {
			for w := range p.Len() {
				both(t, m, s, w)
				right(t, m, s, says)
			}
		}
	}
}

// TestNew: ahead of the first instant nothing is done, however often that is asked.
func TestNew(t *testing.T) {
	for _, x := range sound {
		_, p := lowered(t, withVars(x.vars, x.eqs))
		m := mach.New(p, soundRows...)
		for range 2 {
			if m.Done() || m.Steps() != 0 || m.Waiting() != x.ahead || len(m.Out(0)) != 0 {
				t.Errorf("%q: at first Done %v, Steps %d, Waiting %d, Out %v", x.eqs, m.Done(), m.Steps(), m.Waiting(), m.Out(0))
			}
			for w := range p.Len() {
				if m.Instants(w) != 0 {
					t.Errorf("%q: at first the worker %d has done %d instants", x.eqs, w, m.Instants(w))
				}
			}
		}
	}
}

// TestNoRows: all is done at once, and nobody can go on.
func TestNoRows(t *testing.T) {
	for _, x := range sound {
		_, p := lowered(t, withVars(x.vars, x.eqs))
		m := mach.New(p)
		for w := range p.Len() {
			if m.Can(w) || m.Pick(w) || m.Instants(w) != 0 {
				t.Errorf("%q: without rows the worker %d goes on", x.eqs, w)
			}
		}
		if !m.Done() || m.Run(0, 0, 0) != 0 || m.Steps() != 0 || m.Waiting() != x.ahead || len(m.Out(0)) != 0 {
			t.Errorf("%q: without rows Done %v, Steps %d, Waiting %d, Out %v", x.eqs, m.Done(), m.Steps(), m.Waiting(), m.Out(0))
		}
	}
}

// TestRows: what is wanting is 0, also behind an instant at which it wasn't; what is more doesn't count.
func TestRows(t *testing.T) {
	tells(t, "node f(a: int, c: bool, b: int) returns (p: int, q: bool, r: int) let p = b; q = c; r = a; tel",
		[][]int64{{5, 1, 7}, {}, nil, {6}, {6, 1}, {5, 0, -7, 9, 9}, {1}},
		[][]int64{{7, 0, 0, 0, 0, -7, 0}, {1, 0, 0, 0, 1, 0, 0}, {5, 0, 0, 6, 6, 5, 1}})
	tells(t, "node f() returns (y: int) let y = 1 -> pre y * 2; tel", [][]int64{{}, {7, 8}, nil, {0}}, [][]int64{{1, 2, 4, 8}})
	tells(t, withVars("u: future int;", "u = async less(x, if c then 1 else 2); y = await u after (0);"),
		[][]int64{{5, 1, 3}, {7}, {}, {9, 1}}, [][]int64{{0, 4, 5, -2}})
}

// TestPorts: each by its number, in and out, and where a worker hands over what is no future; nothing is written
// at others.
func TestPorts(t *testing.T) {
	tells(t, "node f(a: int, b: int, c: bool) returns (p: int, q: int, r: bool) var u: future int; v: future bool;"+
		" let p = b; q = await u after (0); r = await v after (false, true); u = async h(b, u, c, a); v = async e(a, b); tel"+
		" node h(a: int, w: future int, b: bool, c: int) returns (d: int) let d = if b then a * 100 + c else c - await w after (7); tel"+
		" node e(a: int, b: int) returns (c: bool) let c = a < b; tel",
		[][]int64{{1, 2, 1}, {4, 3, 0}, {5, 6, 1}, {7, 8, 0}}, [][]int64{{2, 3, 6, 8}, {0, 201, 4 - 201, 605}, {0, 1, 1, 0}})
	tells(t, "node f(a: int) returns () let tel", [][]int64{{1}, {2}}, [][]int64{})
	tells(t, "node f() returns (p: int, q: bool) var u: future int; let (p, q) = two(u); u = async one(p); tel"+
		" node two(w: future int) returns (a: int, b: bool) let a = await w after (3, 4); b = a > 4; tel node one(a: int) returns (b: int) let b = a + 1; tel",
		[][]int64{{}, {}, {}, {}, {}}, [][]int64{{3, 4, 4, 5, 5}, {0, 0, 0, 1, 1}})
}

// TestNoPort: nothing is written where there is no port.
func TestNoPort(t *testing.T) {
	_, p := lowered(t, "node f(x: int) returns (y: int, z: int) let y = x; z = -x; tel")
	m := mach.New(p, []int64{1}, []int64{2})
	ends(t, m, 1)
	for _, port := range []int{-1, 2, 3, math.MinInt, math.MaxInt} {
		if got := m.Out(port); len(got) != 0 {
			t.Errorf("Out(%d) = %v", port, got)
		}
	}
	if !slices.Equal(m.Out(0), []int64{1, 2}) || !slices.Equal(m.Out(1), []int64{-1, -2}) {
		t.Errorf("Out: %v, %v", m.Out(0), m.Out(1))
	}
}

// nobody: numbers of which a machine of two workers has none.
var nobody = [...]int{-1, 2, 3, 99, math.MinInt, math.MaxInt}

// TestNoWorker: one that isn't there can't go on, and has done nothing; nothing comes of that it is picked.
func TestNoWorker(t *testing.T) {
	l, p := lowered(t, withVars("u: future int;", "u = async more(x); y = await u after (0);"))
	m, s, says := mach.New(p, soundRows...), shadowOf(p, len(soundRows)), sense(l, soundRows)
	for !m.Done() {
		for _, w := range nobody {
			if m.Pick(w) || m.Can(w) || m.Instants(w) != 0 {
				t.Errorf("behind %d steps there is a worker %d", m.Steps(), w)
			}
		}
		right(t, m, s, says)
		both(t, m, s, 1)
		both(t, m, s, 0)
	}
	if m.Run(nobody[:]...) != 0 || m.Instants(2) != 0 {
		t.Error("behind the end there are others")
	}
}

// TestRun: as Pick of each, one behind the other; only what was done counts.
func TestRun(t *testing.T) {
	_, p := lowered(t, withVars("u: future int;", "u = async more(x); y = await u after (0);"))
	m, n := mach.New(p, soundRows...), mach.New(p, soundRows...)
	if m.Run() != 0 || m.Steps() != 0 {
		t.Error("a script without workers goes on")
	}
	for i, script := range [][]int{{0}, {1, 1, 1}, {-1, 0, 7, 0}, slices.Repeat([]int{0}, 50), slices.Repeat([]int{1}, 50), slices.Repeat([]int{1, -5, 0}, 200)} {
		want, before := 0, m.Steps()
		for _, w := range script {
			if n.Pick(w) {
				want++
			}
		}
		if got := m.Run(script...); got != want || m.Steps() != before+want || m.Steps() != n.Steps() || m.Waiting() != n.Waiting() || !slices.Equal(m.Out(0), n.Out(0)) {
			t.Errorf("Run of the script %d answers %d, want %d; Steps %d, Waiting %d, Out %v", i, got, want, m.Steps(), m.Waiting(), m.Out(0))
		}
	}
	if m.Run(0, 1) != 0 || !m.Done() {
		t.Errorf("behind all scripts Done is %v", m.Done())
	}
}

// TestAlone: one that is picked alone comes as far as its edges let it, and then stays there.
func TestAlone(t *testing.T) {
	for _, x := range [...]struct {
		vars, eqs           string
		worker, in, waiting int // how many instants it does, and how many values are then on their way
	}{
		{"", "y = x;", 0, 5, 0},
		{"u: future int;", "u = async count(); y = x;", 0, 5, 0},
		{"u: future int;", "u = async count(); y = x;", 1, 5, 0},
		{"u: future int;", "u = async count(); y = await u;", 0, 0, 0},
		{"u: future int;", "u = async count(); y = await u;", 1, 1, 1},
		{"u: future int;", "u = async count(); y = await u after (1, 2, 3);", 0, 3, 0},
		{"u: future int;", "u = async count(); y = await u after (1, 2, 3);", 1, 1, 4},
		{"u: future int;", "u = async count(); y = await u after (1, 2, 3, 4, 5, 6, 7);", 0, 5, 2},
		{"u: future int;", "u = async count(); y = await u after (1, 2, 3) + await u after (1);", 1, 1, 6},
	} {
		l, p := lowered(t, withVars(x.vars, x.eqs))
		m, s, says := mach.New(p, soundRows...), shadowOf(p, len(soundRows)), sense(l, soundRows)
		for s.can(x.worker) {
			both(t, m, s, x.worker)
			right(t, m, s, says)
		}
		if m.Instants(x.worker) != x.in || m.Waiting() != x.waiting {
			t.Errorf("%q: alone the worker %d does %d instants, and %d values wait; want %d, %d", x.eqs, x.worker, m.Instants(x.worker), m.Waiting(), x.in, x.waiting)
		}
		if steps := m.Steps(); m.Pick(x.worker) || m.Run(x.worker, x.worker) != 0 || m.Steps() != steps || m.Can(x.worker) {
			t.Errorf("%q: alone the worker %d goes on behind that", x.eqs, x.worker)
		}
	}
}

// TestBetween: of two workers, with an edge to and fro, which is there for whom.
func TestBetween(t *testing.T) {
	_, p := lowered(t, withVars("u: future int;", "u = async more(x); y = await u after (0);"))
	m := mach.New(p, soundRows...)
	if m.Pick(1) || m.Can(1) {
		t.Error("nothing was handed over, and yet the called worker goes on")
	}
	for at := range soundRows {
		for m.Pick(0) {
		}
		if m.Can(0) || m.Instants(0) != at+1 || len(m.Out(0)) != at+1 || !m.Can(1) {
			t.Errorf("behind %d rounds Can is %v, %v, Instants %d, Out %v", at, m.Can(0), m.Can(1), m.Instants(0), m.Out(0))
		}
		for m.Pick(1) {
		}
		if m.Can(1) || m.Instants(1) != at+1 || m.Waiting() != 1 {
			t.Errorf("behind %d rounds Can is %v, Instants %d, Waiting %d", at, m.Can(1), m.Instants(1), m.Waiting())
		}
	}
	if !m.Done() || m.Can(0) || m.Can(1) || !slices.Equal(m.Out(0), []int64{0, 11, 21, 31, 41}) {
		t.Errorf("at the end Done is %v, Out %v", m.Done(), m.Out(0))
	}
}

// crowd: a program of that many workers, each of whose futures is awaited behind eight values.
func crowd(workers int) string {
	vars, eqs, sum := "", "", "0"
	for i := range workers - 1 {
		u := "u" + strconv.Itoa(i)
		vars, eqs, sum = vars+u+": future int; ", eqs+u+" = async sum(x); ", sum+" + w("+u+")"
	}
	return "node f(x: int) returns (y: int) var " + vars + "let y = " + sum + "; " + eqs + "tel" +
		" node w(v: future int) returns (b: int) let b = await v after (1, 2, 3, 4, 5, 6, 7, 8); tel" + library
}

// TestMost: as many workers, instants, and values ahead, as there may be.
func TestMost(t *testing.T) {
	l, p := lowered(t, crowd(api.MaxWorker))
	var rows [][]int64
	var want []int64
	for i := range int64(api.MaxRows) {
		rows = append(rows, []int64{i})
		if i < api.MaxAfter {
			want = append(want, (i+1)*(api.MaxWorker-1))
		} else {
			want = append(want, (i-8)*(i-7)/2*(api.MaxWorker-1))
		}
	}
	m, s, says := mach.New(p, rows...), shadowOf(p, len(rows)), sense(l, rows)
	if p.Len() != api.MaxWorker || !slices.Equal(says[0], want) {
		t.Fatalf("there are %d workers, that mean %v", p.Len(), says)
	}
	for rounds := 0; !s.done(); rounds++ {
		for w := range p.Len() {
			both(t, m, s, w)
		}
		if rounds%97 == 0 {
			right(t, m, s, says)
		}
	}
	right(t, m, s, says)
}

// TestCalls: a machine has the document's calls, and no others.
func TestCalls(t *testing.T) {
	var got []string
	kind := reflect.TypeFor[*mach.Machine]()
	for i := range kind.NumMethod() {
		got = append(got, kind.Method(i).Name)
	}
	if want := strings.Fields("Can Done Instants Out Pick Run Steps Waiting"); !slices.Equal(got, want) {
		t.Errorf("there are %v, want %v", got, want)
	}
	for i := range kind.Elem().NumField() {
		if f := kind.Elem().Field(i); f.IsExported() {
			t.Errorf("there is the field %s", f.Name)
		}
	}
}

// TestZero: a machine that New didn't make has no workers, and nothing to do.
func TestZero(t *testing.T) {
	m := new(mach.Machine)
	if m.Pick(0) || m.Can(0) || m.Run(0, 1) != 0 || m.Instants(0) != 0 || !m.Done() || len(m.Out(0)) != 0 || m.Steps() != 0 || m.Waiting() != 0 {
		t.Error("a zero machine does something")
	}
}
