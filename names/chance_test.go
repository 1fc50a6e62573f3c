package names_test

import (
	"math/rand"
	"slices"
	"strings"
	"testing"

	"girandole/api"
	"girandole/lex"
	"girandole/names"
	"girandole/parse"
	"girandole/tree"
)

// ranked is a fault, and where it stands among all that a program may have.
type ranked struct {
	rank []int
	f    lex.Fault
}

// faults gathers all faults of a program, each with its rank, and doesn't stop at the first.
type faults struct {
	l   []ranked
	all []tree.Node
}

func (s *faults) add(is bool, at int, err api.Errno, rank ...int) {
	if is {
		s.l = append(s.l, ranked{rank, lex.Fault{At: at, Err: err}})
	}
}

func (s *faults) first() lex.Fault {
	if len(s.l) == 0 {
		return lex.Fault{}
	}
	return slices.MinFunc(s.l, func(a, b ranked) int { return slices.Compare(a.rank, b.rank) }).f
}

func (s *faults) ofProgram() {
	for i, n := range s.all {
		s.add(i == 20, n.At, api.ErrLimits, 0)
		for _, m := range s.all[:i] {
			s.add(m.Name == n.Name, n.At, api.ErrTwice, 1, i)
		}
		s.ofNode(i, n)
		s.add(s.comesBack(n, len(s.all), n.Name), n.At, api.ErrCycle, 3, i)
	}
}

// comesBack: with as many steps at most.
func (s *faults) comesBack(n tree.Node, steps int, name string) bool {
	if steps == 0 {
		return false
	}
	return slices.ContainsFunc(names.Calls(n), func(called string) bool {
		m, ok := tree.Find(s.all, called)
		return called == name || ok && s.comesBack(m, steps-1, name)
	})
}

func (s *faults) ofNode(i int, n tree.Node) {
	all := tree.All(n)
	s.add(len(all) > 60 || len(n.Eqs) > 60, n.At, api.ErrLimits, 2, i, 0)
	for j, d := range all {
		for _, e := range all[:j] {
			s.add(e.Name == d.Name, d.At, api.ErrTwice, 2, i, 1, j)
		}
		s.add(d.Clock != "" && !has(all, d.Clock), d.At, api.ErrName, 2, i, 2, j)
	}
	var given []tree.Left
	for j, q := range n.Eqs {
		s.ofEq([]int{2, i, 3, j}, n, q)
		for _, left := range q.Left {
			s.add(slices.ContainsFunc(given, func(l tree.Left) bool { return l.Name == left.Name }), left.At, api.ErrTwice, 2, i, 4, len(given))
			given = append(given, left)
		}
	}
	for j, d := range all[len(n.Ins):] {
		s.add(!slices.ContainsFunc(given, func(l tree.Left) bool { return l.Name == d.Name }), d.At, api.ErrName, 2, i, 5, j)
	}
}

func (s *faults) ofEq(rank []int, n tree.Node, q tree.Eq) {
	add := func(is bool, at int, err api.Errno, more ...int) { s.add(is, at, err, slices.Concat(rank, more)...) }
	for j, left := range q.Left {
		add(!has(tree.All(n)[len(n.Ins):], left.Name), left.At, api.ErrName, 0, j)
	}
	j := 0
	tree.Each(q.E, func(e tree.Expr) {
		called, ok := tree.Find(s.all, e.Name)
		switch e.Kind {
		case tree.Var, tree.When, tree.Merge, tree.Await:
			add(!has(tree.All(n), e.Name), e.At, api.ErrName, 1, j)
		case tree.Call:
			add(!ok, e.At, api.ErrName, 1, j, 0)
			add(len(e.Kids) != len(called.Ins), e.At, api.ErrMany, 1, j, 1)
			add(j == 0 && len(called.Outs) != len(q.Left), e.At, api.ErrMany, 2)
			add(j > 0 && len(called.Outs) != 1, e.At, api.ErrMany, 3, j)
		}
		j++
	})
	add(q.E.Kind != tree.Call && len(q.Left) != 1, q.E.At, api.ErrMany, 2)
}

func has(l []tree.Decl, name string) bool {
	return slices.ContainsFunc(l, func(d tree.Decl) bool { return d.Name == name })
}

const sound = `
node f(a: int, c: bool) returns (y: int, z: int) var v: int when c; w: int when not c; u: future int; b: bool;
let v = k(a when c); (y, z) = g(a, y + h(merge c (v) (w))); w = h(k(a when not c)); u = async h(a); b = c and await u after (1, 2) = k(z); tel
node g(a: int, b: int) returns (y: int, z: int) let y = if a = b then h(a) else k(b) -> a; z = pre (1 fby b); tel
node h(a: int) returns (y: int) var v: bool; let y = -a + k(a + 1); v = not v; tel
node k(a: int) returns (y: int) let y = a; tel
node l() returns (y: int) let y = k(1) + k(k(2)); tel`

// spoiled: the sound program with some tokens replaced, put in or left out, by chance.
func spoiled(r *rand.Rand) string {
	l, _ := lex.All(sound)
	var words []string
	for _, k := range l[:len(l)-1] {
		words = append(words, k.Text)
	}
	some := strings.Fields("a b c u v w y z f g h k l x")
	for range r.Intn(5) {
		i := r.Intn(len(words) - 1)
		isName := len(words[i]) == 1 && strings.Contains("abcuvwyzfghkl", words[i])
		switch {
		case isName && words[i+1] == "(" && words[max(0, i-1)] != "node":
			words[i] = []string{"f", "g", "h", "h", "h", "k", "l"}[r.Intn(7)]
		case isName && r.Intn(2) == 0:
			words[i] = some[r.Intn(len(some))]
		case isName && words[i+1] == ",":
			words = slices.Delete(words, i, i+2)
		case words[i] == "(" || words[i] == ",":
			words = slices.Insert(words, i+1, some[r.Intn(len(some))], ",")
		case words[i] == "let":
			words = slices.Insert(words, i+1, some[r.Intn(len(some))], "=", some[r.Intn(len(some))], ";")
		case words[i] == "int" && words[i+1] == ")":
			words = slices.Insert(words, i+1, ",", some[r.Intn(len(some))], ":", "int")
		case words[i] == "tel":
			words = slices.Insert(words, i+1, strings.Fields("node "+some[r.Intn(len(some))]+" ( ) returns ( ) let tel")...)
		}
	}
	return strings.Join(words, " ")
}

func TestByChance(t *testing.T) {
	taken(t, sound)
	r := rand.New(rand.NewSource(1))
	met := map[api.Errno]int{}
	for range 8000 {
		text := spoiled(r)
		l, f := parse.Program(text)
		if f != (lex.Fault{}) {
			continue
		}
		s := faults{all: l}
		s.ofProgram()
		got, want := names.Check(l), s.first()
		if got != want {
			t.Fatalf("Check(%q) = %+v, want %+v", text, got, want)
		}
		met[got.Err]++
	}
	for _, err := range []api.Errno{api.OK, api.ErrName, api.ErrTwice, api.ErrMany, api.ErrCycle} {
		if met[err] < 10 {
			t.Errorf("error %d was met %d times alone", err, met[err])
		}
	}
}
