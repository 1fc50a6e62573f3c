package balance_test

import (
	"reflect"
	"strconv"
	"strings"
	"testing"

	"girandole/api"
	"girandole/balance"
	"girandole/lex"
	"girandole/parse"
	"girandole/split"
)

// others: nodes that run by themselves, or are called.
const others = " node g(a: int) returns (b: int) let b = a + 1; tel" +
	" node k() returns (b: int) let b = 1 fby b + 1; tel" +
	" node now(w: future int) returns (b: int) let b = await w; tel" +
	" node late(w: future int) returns (b: int) let b = await w after (5); tel" +
	" node mixed(w: future int) returns (b: int) let b = await w after (5, 6) - await w; tel" +
	" node deaf(w: future int) returns (b: int) let b = 2; tel" +
	" node two(v: future int, w: future int) returns (b: int) let b = await v + await w after (1, 2); tel" +
	" node ringed(a: int) returns (b: int) var u: future int; let u = async g(a); b = await u; tel" +
	" node loose(a: int) returns (b: int) var u: future int; let u = async g(a); b = await u after (-1, -1, -1); tel" +
	" node through(w: future int) returns (b: int) var u: future int; let u = async now(w); b = await u; tel" +
	" node afterwards(w: future int) returns (b: int) var u: future int; let u = async late(w); b = await u; tel"

// withFutures: a program whose first node has these equations, and as many futures u0, u1, .. as are async.
func withFutures(eqs string) string {
	vars := ""
	for i := range strings.Count(eqs, "async") {
		vars += "u" + strconv.Itoa(i) + ": future int; "
	}
	if vars != "" {
		vars = "var " + vars
	}
	return "node f(x: int) returns (y: int) " + vars + "let " + eqs + " tel" + others
}

func planOf(t *testing.T, text string) *split.Plan {
	t.Helper()
	l, f := parse.Program(text)
	if f != (lex.Fault{}) {
		t.Fatalf("Program(%q): %+v; want no fault below", text, f)
	}
	p, f := split.Split(l)
	if f != (lex.Fault{}) {
		t.Fatalf("Split(%q): %+v; want no fault below", text, f)
	}
	return p
}

// goes: no workers wait for each other; of each program the room of its edges.
var goes = [...]struct {
	eqs  string
	room int
}{
	{"y = x;", 0},
	{"y = g(x) + k();", 0},
	{"y = x; u0 = async k();", 0},
	{"y = await u0; u0 = async k();", 1},
	{"y = await u0 + await u0 + await u0 after (1, 2, 3); u0 = async k();", 6},
	{"y = x; u0 = async g(x);", 1},
	{"y = await u0 after (0); u0 = async g(x);", 3},
	{"y = await u0 after (1, 2, 3, 4, 5, 6, 7, 8); u0 = async g(7);", 10},
	{"y = await u1; u0 = async k(); u1 = async now(u0);", 2},
	{"y = await u1 after (0); u0 = async g(x); u1 = async now(u0);", 4},
	{"y = await u1; u0 = async g(x); u1 = async late(u0);", 4},
	{"y = x; u0 = async g(x); u1 = async g(x); u2 = async two(u0, u1); u3 = async two(u2, u0); u4 = async two(u3, u2);", 14},
	{"y = x; u0 = async k(); u1 = async g(await u0); u2 = async g(await u0);", 4},
	{"y = await u0; u0 = async deaf(u1); u1 = async g(x);", 2},
	{"y = await u0; u0 = async deaf(u0);", 1},
	// ways back, each with a delay
	{"y = x; u0 = async late(u0);", 2},
	{"y = x; u0 = async late(u1); u1 = async now(u0);", 3},
	{"y = x; u0 = async now(u1); u1 = async now(u2); u2 = async late(u3); u3 = async now(u0);", 5},
	{"y = await u0; u0 = async two(u1, u0); u1 = async two(u2, u1); u2 = async late(u0);", 11},
	{"y = x; u0 = async two(u1, u0); u1 = async late(u0);", 6},
	{"y = late(u0); u0 = async g(x); u1 = async now(u0);", 4},
	{"y = loose(x);", 5},
	{"y = x; u0 = async loose(x);", 6},
	{"y = await u0 after (1); u0 = async loose(x);", 8},
	{"y = x; u0 = async through(u1); u1 = async k();", 2},
	{"y = x; u0 = async afterwards(u0);", 3},
	{"y = x; u0 = async through(u1); u1 = async late(u0);", 4},
}

// waits: some workers wait for each other.
var waits = [...]string{
	"y = await u0; u0 = async g(x);",
	"y = await u0; u0 = async g(7);",
	"y = 0 -> pre await u0; u0 = async g(x);",
	"y = await u0 after (1) + await u0; u0 = async g(x);",
	"y = now(u0); u0 = async g(x);",
	"y = mixed(u0); u0 = async g(x);",
	"y = x; u0 = async g(await u0);",
	"y = x; u0 = async g(await u1 after (0)); u1 = async g(await u0);",
	"y = x; u0 = async g(await u1); u1 = async g(await u0 after (0, 1));",
	"y = await u1; u0 = async g(x); u1 = async now(u0);",
	"y = await u3; u0 = async g(x); u1 = async now(u0); u2 = async now(u1); u3 = async now(u2);",
	"y = await u1; u0 = async g(x); u1 = async two(u0, u0);",
	// ways back beside the first node's worker
	"y = x; u0 = async now(u0);",
	"y = x; u0 = async mixed(u0);",
	"y = x; u0 = async now(u1); u1 = async now(u0);",
	"y = await u2 after (3); u0 = async now(u1); u1 = async now(u2); u2 = async now(u3); u3 = async now(u0);",
	"y = x; u0 = async late(u1); u1 = async mixed(u2); u2 = async now(u1);",
	"y = x; u0 = async two(u0, u1); u1 = async late(u1);",
	"y = x; u0 = async late(u0); u1 = async late(u0); u2 = async two(u3, u1); u3 = async two(u2, u2);",
	"y = await u0 after (0); u0 = async late(u1); u1 = async k(); u2 = async now(u0); u3 = async now(u3);",
	"y = x; u0 = async through(u0);",
	"y = x; u0 = async through(u1); u1 = async through(u0);",
	// inside what is called, or runs by itself
	"y = ringed(x);",
	"y = x; u0 = async ringed(x);",
	"y = await u0 after (1); u0 = async ringed(x);",
	"y = x; u0 = async g(loose(ringed(x)));",
}

func TestGoes(t *testing.T) {
	for _, x := range goes {
		p := planOf(t, withFutures(x.eqs))
		if f := balance.Check(p); f != (lex.Fault{}) {
			t.Errorf("Check of %q: %+v, want none", x.eqs, f)
		}
		if got := balance.Rooms(p); got != x.room {
			t.Errorf("Rooms of %q = %d, want %d", x.eqs, got, x.room)
		}
	}
}

func TestWaits(t *testing.T) {
	for _, eqs := range waits {
		for _, remark := range []string{"", "-- something ahead\n"} {
			want := lex.Fault{At: len(remark) + len("node "), Err: api.ErrDelay}
			if f := balance.Check(planOf(t, remark+withFutures(eqs))); f != want {
				t.Errorf("Check of %q: %+v, want %+v", remark+eqs, f, want)
			}
		}
	}
}

// TestMost: as many workers as there may be, in one ring.
func TestMost(t *testing.T) {
	ring := func(last string) string {
		eqs := "y = x; "
		for i := range 28 {
			eqs += "u" + strconv.Itoa(i) + " = async now(u" + strconv.Itoa(i+1) + "); "
		}
		return withFutures(eqs + "u28 = async " + last + "(u0);")
	}
	if f := balance.Check(planOf(t, ring("now"))); f.Err != api.ErrDelay {
		t.Errorf("Check of a ring without delay: %+v", f)
	}
	if f := balance.Check(planOf(t, ring("late"))); f != (lex.Fault{}) {
		t.Errorf("Check of a ring with a delay: %+v", f)
	}
}

// TestStays: a plan stays as it is, and what is answered of it is the same each time.
func TestStays(t *testing.T) {
	for _, eqs := range waits {
		p, same := planOf(t, withFutures(eqs)), planOf(t, withFutures(eqs))
		room, f := balance.Rooms(p), balance.Check(p)
		if balance.Rooms(p) != room || balance.Check(p) != f || !reflect.DeepEqual(p, same) {
			t.Errorf("the plan of %q, or what is told of it, doesn't stay", eqs)
		}
	}
}
