package flat_test

import (
	"math/rand"
	"slices"
	"strings"
	"testing"

	"girandole/api"
	"girandole/flat"
	"girandole/lex"
	"girandole/tree"
)

// seen is what is met where, in the order of ranks, as a unit is laid out: expressions, as many, or a fault.
type seen struct {
	rank []int
	size int
	f    lex.Fault
}

// look gathers all that is met, and doesn't stop at a fault.
type look struct {
	nodes []tree.Node
	l     []seen
}

const behind = 1000 // a rank behind all kids

func (s *look) add(size int, f lex.Fault, rank []int, more ...int) {
	s.l = append(s.l, seen{slices.Concat(rank, more), size, f})
}

func (s *look) node(rank []int, name string, onClock bool) {
	n, _ := tree.Find(s.nodes, name)
	for j, q := range n.Eqs {
		tree.Each(q.E, func(tree.Expr) { s.add(1, lex.Fault{}, rank, 0) })
		if q.Async && onClock {
			s.add(0, lex.Fault{At: q.E.At, Err: api.ErrClock}, rank, 1, j)
		}
		s.expr(slices.Concat(rank, []int{2, j}), n, q.E, onClock, own(n, q.Left[0].Name), q.Async)
	}
}

// own: is a name on the node's own clock?
func own(n tree.Node, name string) bool {
	d, _ := tree.Named(n, name)
	return d.Clock == ""
}

func (s *look) expr(rank []int, n tree.Node, e tree.Expr, onClock, isOwn, async bool) {
	kids := isOwn
	switch e.Kind {
	case tree.When:
		kids = own(n, e.Name)
	case tree.Merge:
		kids = false
	case tree.Await:
		if onClock {
			s.add(0, lex.Fault{At: e.At, Err: api.ErrClock}, rank, behind)
		}
	case tree.Call:
		if !async {
			s.node(slices.Concat(rank, []int{behind}), e.Name, onClock || !isOwn)
		}
	}
	for i, k := range e.Kids {
		s.expr(slices.Concat(rank, []int{i}), n, k, onClock, kids, false)
	}
}

// first: the size, or the first fault, that of a size above the greatest one among them.
func (s *look) first(at int) (int, lex.Fault) {
	slices.SortStableFunc(s.l, func(a, b seen) int { return slices.Compare(a.rank, b.rank) })
	size := 0
	for _, x := range s.l {
		if size += x.size; size > 1500 {
			return 0, lex.Fault{At: at, Err: api.ErrLimits}
		}
		if x.f != (lex.Fault{}) {
			return 0, x.f
		}
	}
	return size, lex.Fault{}
}

const whole = `
node f(a: bool, c: bool, d: bool) returns (y: bool, z: bool)
var k: bool when c; l: bool when not c; m: bool when k; n: bool when not k; e: bool when c; u: future bool; v: future bool;
let
v = async w(a xor z, u); u = async g(c, false fby y);
k = g(a when c, true -> pre k) xor (s(d) when c); l = (a xor d) when not c; m = g(i(true), d when c when k); n = true fby not i(n);
y = merge c (merge e (k when e) (i(e when not e))) (i(l)) xor g(w(a, u), d);
e = merge k (i(m)) (not n); z = (p(w(d, u), g(a, c)) and not await v after (true)) or false -> pre z;
tel
node g(c: bool, d: bool) returns (y: bool) var k: bool when c; let k = true -> not pre k or d when c; y = merge c (k) (i(d when not c)); tel
node i(c: bool) returns (y: bool) let y = c <> (false fby c); tel
node w(c: bool, u: future bool) returns (y: bool) let y = c = await u after (false); tel
node s(c: bool) returns (y: bool) var u: future bool; let y = c and await u after (true, false); u = async i(c xor j(c)); tel
node p(c: bool, d: bool) returns (y: bool) var e: bool; let (e, y) = h(d, i(c) or e); tel
node h(c: bool, d: bool) returns (y: bool, z: bool) let z = c; y = true -> pre (c xor d); tel
node j(c: bool) returns (y: bool) let y = many(many(c)); tel
node many(c: bool) returns (y: bool) let y = g(g(g(g(c, c), g(c, c)), g(g(c, c), g(c, c))), g(g(g(c, c), g(c, c)), g(g(c, c), g(c, c)))); tel`

// spoiled: the whole program with some tokens replaced by chance; all is a truth, so that it may still be sound.
func spoiled(r *rand.Rand) string {
	l, _ := lex.All(whole)
	var words []string
	for _, k := range l[:len(l)-1] {
		words = append(words, k.Text)
	}
	for left := r.Intn(7); left > 0; {
		i := r.Intn(len(words))
		if left%2 == 1 && !strings.Contains(" i s j many ", " "+words[i]+" ") {
			continue // every other one is a call
		}
		if other := instead(r, words[i]); !slices.Equal(other, words[i:i+1]) {
			words = slices.Replace(words, i, i+1, other...)
			left--
		}
	}
	return strings.Join(words, " ")
}

// instead: what may stand where a word stands.
func instead(r *rand.Rand, word string) []string {
	switch word {
	case "g", "h":
		return []string{[]string{"g", "h", "p"}[r.Intn(3)]}
	case "i", "s", "j", "many":
		return []string{[]string{"i", "s", "j", "many"}[r.Intn(4)]}
	case "and", "or", "xor":
		return []string{[]string{"and", "or", "xor", "->"}[r.Intn(4)]}
	case "a", "c", "d", "y", "z", "k", "l", "m", "n":
		name := []string{"a", "c", "d", "y", "k"}[r.Intn(5)]
		e := []string{name, name, "(W when N)", "(W when not N)", "(true -> pre W)", "(true fby W)", "(false -> pre (W xor N))",
			"g(W, N)", "p(W, N)", "i(W)", "s(W)", "j(W)", "many(W)", "w(W, u)", "await u", "(if W then N else not W)",
			"merge N (W when N) (W when not N)", "merge N (s(W when N)) (W when not N)", "merge N (true) (w(N when not N, u))"}
		return strings.Fields(strings.NewReplacer("W", word, "N", name).Replace(e[r.Intn(len(e))]))
	}
	return []string{word}
}

// rowsFor: what comes in to a node by chance, six times.
func rowsFor(r *rand.Rand, n tree.Node) [][]int64 {
	var l [][]int64
	for range 6 {
		var row []int64
		for range n.Ins {
			row = append(row, int64(r.Intn(2)))
		}
		l = append(l, row)
	}
	return l
}

// saysSame holds what a unit says against what the tree says; false: it says nothing, as some name hangs on itself.
func saysSame(t *testing.T, r *rand.Rand, l []tree.Node, n tree.Node) bool {
	in := rowsFor(r, n)
	said, ok := run(t, l, n.Name, in)
	i := instanceOf(l, n, in)
	for at, outs := range said {
		for k, d := range n.Outs {
			if want := i.name(d.Name, at); outs[k] != want {
				t.Fatalf("%q in %s says %d of %q at instant %d of %v, want %d", n.Name, tree.Print(l...), outs[k], d.Name, at, in, want)
			}
		}
	}
	return ok
}

func TestByChance(t *testing.T) {
	programOf(t, whole)
	r := rand.New(rand.NewSource(1))
	met := map[api.Errno]int{}
	same := 0
	for range 3000 {
		text := spoiled(r)
		l, f := read(text)
		if f != (lex.Fault{}) {
			continue
		}
		fits := true
		for _, n := range l {
			s := look{nodes: l}
			s.node(nil, n.Name, false)
			size, want := s.first(n.At)
			u, got := flat.Flatten(l, n.Name)
			if got != want || want == (lex.Fault{}) && u.Size() != size {
				t.Fatalf("Flatten(%q, %q) = %+v, want %d, %+v", text, n.Name, got, size, want)
			}
			met[got.Err]++
			fits = fits && got.Err == api.OK
		}
		if fits && saysSame(t, r, l, l[0]) {
			same++
		}
	}
	if met[api.OK] < 1000 || met[api.ErrClock] < 50 || met[api.ErrLimits] < 8 || same < 300 {
		t.Errorf("errors were met as often as %v alone, and %d said the same", met, same)
	}
}
