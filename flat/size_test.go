package flat_test

import (
	"strconv"
	"strings"
	"testing"

	"girandole/api"
	"girandole/flat"
)

// called: nodes of sizes 1, 4, 2 and 8; of 5, to which a future comes; of 4 and 10, which have futures of their own.
const called = `
node one(x: int) returns (y: int) let y = x; tel
node four(x: int) returns (y: int) let y = 0 -> pre x; tel
node two(x: int, c: bool) returns (y: int, z: bool) let y = x; z = c; tel
node eight(x: int) returns (y: int) let y = four(x + 0); tel
node waits(u: future int, x: int) returns (y: int) let y = await u after (1, 2) + x; tel
node alone(x: int) returns (y: int) var u: future int; let u = async four(x); y = await u after (0); tel
node more(x: int) returns (y: int) var u: future int; let u = async one(four(x)); y = await u after (1, 2); tel
`

// sizes: equations of a node, and how many expressions they have, with all that is called in them.
var sizes = [...]struct {
	vars, eqs string
	size      int
}{
	{"", "y = 1", 1}, {"", "y = -1", 1}, {"", "y = a", 1}, {"", "y = -a", 2}, {"", "y = a + 1", 3},
	{"", "y = if c then 1 else a", 4}, {"", "y = if not c then -a else y mod 3", 8},
	{"", "y = 0 -> pre y", 4}, {"", "y = 0 fby y", 3}, {"", "y = merge c (1) (a when not c)", 4},
	{"var k: bool;", "k = c and c; y = if k then 1 else 2", 3 + 4},
	{"var k: int when c;", "k = a when c; y = merge c (k) (a when not c)", 2 + 4},
	{"", "y = one(a)", 2 + 1}, {"", "y = one(one(a))", 3 + 2}, {"", "y = four(a)", 2 + 4},
	{"", "y = four(a) + four(a)", 5 + 8}, {"", "y = four(one(a) * 2)", 5 + 4 + 1},
	{"", "y = eight(a)", 2 + 8}, {"", "y = eight(eight(one(1)))", 4 + 2*8 + 1},
	{"var k: bool;", "(y, k) = two(a, c)", 3 + 2},
	{"", "y = 0 -> pre four(a)", 5 + 4}, {"", "y = 0 fby one(a)", 4 + 1},
	{"", "y = merge c (one(1)) (four(2))", 5 + 5}, {"", "y = merge c (one(a) when c) (1)", 5 + 1},
	{"var u: future int;", "u = async four(a); y = 1", 2 + 1},
	{"var u: future int;", "u = async four(one(a)); y = await u", 3 + 1 + 1},
	{"var u: future int;", "u = async one(a); y = await u after (1, -2, 3)", 2 + 4},
	{"var u: future int; v: future int;", "u = async waits(v, a); v = async one(1); y = await u", 3 + 2 + 1},
	{"var u: future int;", "u = async one(a); y = waits(u, a)", 2 + 3 + 5},
	{"var u: future int;", "u = async one(a); y = waits(u, waits(u, 1))", 2 + 5 + 10},
	{"", "y = alone(a)", 2 + 4}, {"", "y = more(a) + more(1)", 5 + 20},
	{"var u: future int;", "u = async more(more(a)); y = await u after (1) - one(2)", 3 + 10 + 5 + 1},
}

func TestSize(t *testing.T) {
	for _, x := range sizes {
		sized(t, "node f(a: int, c: bool) returns (y: int) "+x.vars+" let "+x.eqs+"; tel"+called, "f", x.size)
	}
	sized(t, "node f() returns () let tel", "f", 0)
	sized(t, "node f(x: int, c: bool) returns () let tel", "f", 0)
}

// TestSizeOfAny: any node of a program may be asked for, wherever it stands, also one to which futures come.
func TestSizeOfAny(t *testing.T) {
	for name, size := range map[string]int{"one": 1, "four": 4, "two": 2, "eight": 8, "waits": 5, "alone": 4, "more": 10} {
		sized(t, called, name, size)
		if u := unitOf(t, programOf(t, called), name); u.Node != name || called[u.At:u.At+len(name)] != name {
			t.Errorf("the unit of %q is that of %q at %d", name, u.Node, u.At)
		}
	}
}

func TestNoSuchNode(t *testing.T) {
	l := programOf(t, called)
	for _, name := range []string{"", "y", "on", "one ", "One", "async", "\xff"} {
		if u, f := flat.Flatten(l, name); u != nil || f.At != 0 || f.Err != api.ErrName {
			t.Errorf("Flatten(.., %q) = %v, %+v", name, u, f)
		}
	}
	if u, f := flat.Flatten(nil, "one"); u != nil || f.At != 0 || f.Err != api.ErrName {
		t.Errorf("Flatten(nil, ..) = %v, %+v", u, f)
	}
}

// nodeOf: a node whose equations have so many expressions together; besides more equations, which give to w's.
func nodeOf(name string, size int, more ...string) string {
	var vars, eqs []string
	for i := range more {
		vars = append(vars, "w"+strconv.Itoa(i)+":int;")
		eqs = append(eqs, "w"+strconv.Itoa(i)+"="+more[i]+";")
	}
	for to := "y"; size > 0; to = "v" + strconv.Itoa(len(vars)) {
		part := min(size, 39)
		if size -= part; to != "y" {
			vars = append(vars, to+":int;")
		}
		eqs = append(eqs, to+"="+sum(part)+";")
	}
	if len(vars) > 0 {
		vars = append([]string{" var "}, vars...)
	}
	return "node " + name + "(x:int)returns(y:int)" + strings.Join(vars, "") + " let " + strings.Join(eqs, "") + " tel "
}

// sum: an expression of that size.
func sum(size int) string {
	if size%2 == 0 {
		return "-" + sum(size-1)
	}
	return strings.Repeat("x+", size/2) + "x"
}

func TestMostSize(t *testing.T) {
	for _, size := range []int{1, 2, 38, 39, 40, 77, 78, 79, 800, 1499, 1500} {
		sized(t, nodeOf("f", size), "f", size)
	}
	for _, size := range []int{1501, 1502, 1540, 1900} {
		refused(t, nodeOf("|f", size), "f", api.ErrLimits)
	}
}

// TestMostSizeOfAll: what is called counts as often as it is called, wherever the node stands; what runs by
// itself doesn't.
func TestMostSizeOfAll(t *testing.T) {
	const once = "node f(x: int) returns (y: int) let y = h(x) + 1; tel "
	const twice = "node f(x: int) returns (y: int) let y = h(x) + h(x) + 1; tel "
	const alone = "node f(x: int) returns (y: int) var u: future int; let u = async h(x); y = await u after (1) + h(x); tel "
	for _, x := range []struct {
		text       string
		most, size int
	}{{once, 1496, 4 + 1496}, {twice, 746, 7 + 2*746}, {alone, 1493, 7 + 1493}} {
		marked := strings.Replace(x.text, "f(", "|f(", 1)
		sized(t, x.text+nodeOf("h", x.most), "f", x.size)
		sized(t, nodeOf("h", x.most)+x.text, "f", x.size)
		refused(t, marked+nodeOf("h", x.most+1), "f", api.ErrLimits)
		refused(t, nodeOf("h", x.most+1)+marked, "f", api.ErrLimits)
		sized(t, nodeOf("h", x.most+1)+x.text, "h", x.most+1)
	}
	const two = "node |f(x: int) returns (y: int) let y = g(x); tel node g(x: int) returns (y: int) let y = h(x) + 1; tel "
	refused(t, two+nodeOf("h", 1500-5), "f", api.ErrLimits)
	sized(t, strings.Replace(two, "|", "", 1)+nodeOf("h", 1500-6), "f", 1500)
	sized(t, strings.Replace(two, "|", "", 1)+nodeOf("h", 1500-5), "g", 1499)
}

// TestSizeGrows: twenty nodes, each of which calls the next one thrice, would be of some 3^20; it ends soon.
func TestSizeGrows(t *testing.T) {
	var text [20]string
	for i := range 19 {
		next := "n" + strconv.Itoa(i+1) + "("
		text[i] = "node n" + strconv.Itoa(i) + "(x: int) returns (y: int) let y = " + next + next + next + "x))); tel "
	}
	text[19] = "node n19(x: int) returns (y: int) let y = x; tel"
	for i, size := 19, 1; i >= 0; i, size = i-1, 4+3*size {
		if name := "n" + strconv.Itoa(i); size <= 1500 {
			sized(t, strings.Join(text[:], ""), name, size)
		} else {
			marked := text
			marked[i] = strings.Replace(text[i], "n"+strconv.Itoa(i), "|n"+strconv.Itoa(i), 1)
			refused(t, strings.Join(marked[:], ""), name, api.ErrLimits)
			size = 1500 // it is enough
		}
	}
}
